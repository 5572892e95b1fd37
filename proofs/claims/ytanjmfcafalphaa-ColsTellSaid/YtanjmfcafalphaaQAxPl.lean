/- Numbers, texts and lists there and back, on lists of bytes. -/
import Derived.Test.YtanjmfcafalphaaQAxXr
import Derived.Test.YtanjmfcafalphaaRows
import Derived.Test.YtanjmfcafalphaaQAxWo
import Derived.Test.YtanjmfcafalphaaQAxSc
/- The texts of functions over values without memory, as the kernel reckons them out of the program. -/
namespace Go.Proofs.Ytanjmfcafalphaa.Ax
open Go.RowKit Go By

def c21 : XFun := ⟨26, (.seq (.ops [⟨(some 4), (.assign (.const (.bool false))), none⟩]) (.seq (.seq (.ops [⟨(some 6), (.move (.tmp 0)), none⟩, ⟨(some 7), (.lenL (.tmp 6)), none⟩, ⟨(some 8), (.move (.tmp 1)), none⟩, ⟨(some 9), (.lenL (.tmp 8)), none⟩, ⟨(some 10), (.bin .neq (.tmp 7) (.tmp 9)), none⟩]) (.cond (.tmp 10) (.seq (.ops [⟨(some 4), (.assign (.const (.bool false))), none⟩]) .ret) .skip)) (.seq (.seq (.ops [⟨(some 5), (.assign (.const (.int .i64 0))), none⟩]) (.block 0 (.loop (.seq (.seq (.ops [⟨(some 11), (.move (.tmp 5)), none⟩, ⟨(some 12), (.move (.tmp 0)), none⟩, ⟨(some 13), (.lenL (.tmp 12)), none⟩, ⟨(some 14), (.bin .lss (.tmp 11) (.tmp 13)), none⟩]) (.cond (.tmp 14) .skip (.exit 0))) (.seq (.block 1 (.seq (.draws (.take ⟨(some 17), (.move (.tmp 0)), none⟩ (.take ⟨(some 18), (.move (.tmp 5)), none⟩ (.take ⟨(some 19), (.iaddr 1 (.tmp 17) (.tmp 18)), none⟩ (.take ⟨(some 20), (.load1 (.tmp 19)), none⟩ (.take ⟨(some 21), (.move (.tmp 1)), none⟩ (.take ⟨(some 22), (.move (.tmp 5)), none⟩ (.take ⟨(some 23), (.iaddr 1 (.tmp 21) (.tmp 22)), none⟩ (.take ⟨(some 24), (.load1 (.tmp 23)), none⟩ (.take ⟨(some 25), (.bin .neq (.tmp 20) (.tmp 24)), none⟩ .done)))))))))) (.cond (.tmp 25) (.seq (.ops [⟨(some 4), (.assign (.const (.bool false))), none⟩]) .ret) .skip))) (.ops [⟨(some 15), (.move (.tmp 5)), none⟩, ⟨(some 16), (.bin .add (.tmp 15) (.const (.int .i64 1))), none⟩, ⟨(some 5), (.assign (.tmp 16)), none⟩])))))) (.seq (.ops [⟨(some 4), (.assign (.const (.bool true))), none⟩]) .ret)))), [(.move (.tmp 4))]⟩
theorem k21 : cfun Try.prog 21 = some c21 := by kernel_rfl
def c8 : XFun := ⟨43, (.seq (.ops [⟨(some 4), (.assign (.const (.bool false))), none⟩]) (.seq (.seq (.ops [⟨(some 6), (.move (.tmp 0)), none⟩, ⟨(some 7), (.lenL (.tmp 6)), none⟩, ⟨(some 8), (.move (.tmp 1)), none⟩, ⟨(some 9), (.lenL (.tmp 8)), none⟩, ⟨(some 10), (.bin .neq (.tmp 7) (.tmp 9)), none⟩]) (.cond (.tmp 10) (.seq (.ops [⟨(some 4), (.assign (.const (.bool false))), none⟩]) .ret) .skip)) (.seq (.seq (.ops [⟨(some 5), (.assign (.const (.int .i64 0))), none⟩]) (.block 0 (.loop (.seq (.seq (.ops [⟨(some 11), (.move (.tmp 5)), none⟩, ⟨(some 12), (.move (.tmp 0)), none⟩, ⟨(some 13), (.lenL (.tmp 12)), none⟩, ⟨(some 14), (.bin .lss (.tmp 11) (.tmp 13)), none⟩]) (.cond (.tmp 14) .skip (.exit 0))) (.seq (.block 1 (.seq (.draws (.take ⟨(some 17), (.move (.tmp 0)), none⟩ (.take ⟨(some 18), (.move (.tmp 5)), none⟩ (.take ⟨(some 19), (.iaddr 2 (.tmp 17) (.tmp 18)), none⟩ (.take ⟨(some 20), (.faddr 0 (.tmp 19)), none⟩ (.take ⟨(some 21), (.load1 (.tmp 20)), none⟩ (.take ⟨(some 22), (.move (.tmp 1)), none⟩ (.take ⟨(some 23), (.move (.tmp 5)), none⟩ (.take ⟨(some 24), (.iaddr 2 (.tmp 22) (.tmp 23)), none⟩ (.take ⟨(some 25), (.faddr 0 (.tmp 24)), none⟩ (.take ⟨(some 26), (.load1 (.tmp 25)), none⟩ (.take ⟨(some 27), (.beq true (.tmp 21) (.tmp 26)), none⟩ (.take ⟨(some 28), (.move (.tmp 27)), none⟩ (.take ⟨(some 29), (.move (.tmp 0)), (some (28, false))⟩ (.take ⟨(some 30), (.move (.tmp 5)), (some (28, false))⟩ (.take ⟨(some 31), (.iaddr 2 (.tmp 29) (.tmp 30)), (some (28, false))⟩ (.take ⟨(some 32), (.faddr 1 (.tmp 31)), (some (28, false))⟩ (.take ⟨(some 33), (.load1 (.tmp 32)), (some (28, false))⟩ (.take ⟨(some 34), (.b2s (.tmp 33)), (some (28, false))⟩ (.take ⟨(some 35), (.move (.tmp 1)), (some (28, false))⟩ (.take ⟨(some 36), (.move (.tmp 5)), (some (28, false))⟩ (.take ⟨(some 37), (.iaddr 2 (.tmp 35) (.tmp 36)), (some (28, false))⟩ (.take ⟨(some 38), (.faddr 1 (.tmp 37)), (some (28, false))⟩ (.take ⟨(some 39), (.load1 (.tmp 38)), (some (28, false))⟩ (.take ⟨(some 40), (.b2s (.tmp 39)), (some (28, false))⟩ (.take ⟨(some 41), (.bin .neq (.tmp 34) (.tmp 40)), (some (28, false))⟩ (.take ⟨(some 42), (.pick (.tmp 28) (.const (.bool true)) (.tmp 41)), none⟩ .done))))))))))))))))))))))))))) (.cond (.tmp 42) (.seq (.ops [⟨(some 4), (.assign (.const (.bool false))), none⟩]) .ret) .skip))) (.ops [⟨(some 15), (.move (.tmp 5)), none⟩, ⟨(some 16), (.bin .add (.tmp 15) (.const (.int .i64 1))), none⟩, ⟨(some 5), (.assign (.tmp 16)), none⟩])))))) (.seq (.ops [⟨(some 4), (.assign (.const (.bool true))), none⟩]) .ret)))), [(.move (.tmp 4))]⟩
theorem k8 : cfun Try.prog 8 = some c8 := by kernel_rfl
end Go.Proofs.Ytanjmfcafalphaa.Ax
/- The contracts of what package wire reads, and of what the document reads, over values without memory. -/
namespace Go.Proofs.Ytanjmfcafalphaa.Ax
open Go.RowKit Go By Nm Sc Dg
set_option linter.unusedSimpArgs false
set_option linter.unusedVariables false
set_option maxRecDepth 10000

/-- What is read again and again: v is read where a scan stands, and leads to s. -/
def readR {α : Type} (v : Sta → α) (s : Sta → Sta) : Nat → Sta → List α × Sta
  | 0, st => ([], st)
  | k + 1, st => (v st :: (readR v s k (s st)).1, (readR v s k (s st)).2)
section
variable {α : Type} (v : Sta → α) (s : Sta → Sta)
theorem readR_next : ∀ (k : Nat) (st : Sta), readR v s (k + 1) st = ((readR v s k st).1 ++ [v (readR v s k st).2], s (readR v s k st).2)
  | 0, st => rfl
  | k + 1, st => by
    have ih := readR_next k (s st)
    rw [readR, ih]
    simp [readR]
@[simp] theorem readR_len : ∀ (k : Nat) (st : Sta), (readR v s k st).1.length = k
  | 0, _ => rfl
  | k + 1, st => by simp [readR, readR_len k]
theorem readR_none (hs : s none = none) : ∀ (k : Nat), (readR v s k none).2 = none
  | 0 => rfl
  | k + 1 => by simp [readR, hs, readR_none hs k]
theorem readR_bad (hs : s none = none) {k n : Nat} (hk : k ≤ n) {st : Sta} (h : (readR v s k st).2 = none) : (readR v s n st).2 = none := by
  induction n with
  | zero => have : k = 0 := by omega
            subst this; exact h
  | succ n ih =>
    by_cases e : k = n + 1
    · subst e; exact h
    · rw [readR_next, ih (by omega)]; exact hs
theorem readR_lenS (hs : ∀ st, He.lenS (s st) ≤ He.lenS st) : ∀ (k : Nat) (st : Sta), He.lenS (readR v s k st).2 ≤ He.lenS st
  | 0, st => Nat.le_refl _
  | k + 1, st => by
    have := readR_lenS hs k (s st)
    have := hs st
    simp only [readR]; omega
end
/-- A list that is read: how many, and each; none, if anything could not be had. -/
def listV {α : Type} (v : Sta → α) (s : Sta → Sta) (st : Sta) : List α :=
  if (readR v s (numV st 2).toNat (numS st 2)).2 = none then [] else (readR v s (numV st 2).toNat (numS st 2)).1
def listS {α : Type} (v : Sta → α) (s : Sta → Sta) (st : Sta) : Sta := (readR v s (numV st 2).toNat (numS st 2)).2
theorem num2_range (st : Sta) : 0 ≤ numV st 2 ∧ numV st 2 < 65536 := by
  unfold numV
  split
  · split
    · exact ⟨(getI_range _ 0 2 (by omega)).1, by have := (getI_range (by assumption) 0 2 (by omega)).2; simpa using this⟩
    · omega
  · omega

/-- A cell that is read. -/
def cellV (st : Sta) : Cl := if numV st 4 = 4294967295 then (true, []) else (false, takeL (numS st 4) (numV st 4))
def cellS (st : Sta) : Sta := if numV st 4 = 4294967295 then numS st 4 else takeS (numS st 4) (numV st 4)
theorem cellS_none : cellS none = none := by simp [cellS, numS, numV, takeS]
/-! ### The document's -/
/-- What is read as long as all could be had. -/
def readU {α : Type} (v : Sta → α) (s : Sta → Sta) : Nat → Sta → List α
  | 0, _ => []
  | k + 1, st => if st = none then [] else v st :: readU v s k (s st)
theorem readU_at {α : Type} (v : Sta → α) (s : Sta → Sta) : ∀ (n j : Nat) (st : Sta), j ≤ n → (∀ t, t < j → (readR v s t st).2 ≠ none) → (j = n ∨ (readR v s j st).2 = none) → readU v s n st = (readR v s j st).1
  | 0, j, st, h1, _, _ => by
    have : j = 0 := by omega
    subst this; rfl
  | n + 1, 0, st, _, _, h3 => by
    rcases h3 with h3 | h3
    · omega
    · have : st = none := h3
      rw [readU, if_pos this]; rfl
  | n + 1, j + 1, st, h1, h2, h3 => by
    have h4 : st ≠ none := h2 0 (by omega)
    have h5 : j = n ∨ (readR v s j (s st)).2 = none := h3.imp (by omega) id
    rw [readU, if_neg h4, readU_at v s n j (s st) (by omega) (fun t ht => h2 (t + 1) (by omega)) h5]
    rfl
theorem readU_len {α : Type} (v : Sta → α) (s : Sta → Sta) : ∀ (n : Nat) (st : Sta), (readU v s n st).length ≤ n
  | 0, _ => Nat.le_refl _
  | n + 1, st => by
    unfold readU; split
    · simp
    · have := readU_len v s n (s st); simp; omega
/-- A list that the document reads. -/
def listU {α : Type} (v : Sta → α) (s : Sta → Sta) (st : Sta) : List α := readU v s (numV st 2).toNat (numS st 2)
theorem listU_eq {α : Type} (v : Sta → α) (s : Sta → Sta) (hs : s none = none) (st : Sta) (h : listS v s st ≠ none) : listU v s st = listV v s st := by
  unfold listV listU
  unfold listS at h
  rw [if_neg h]
  exact readU_at v s _ _ _ (Nat.le_refl _) (fun t ht hh => h (readR_bad v s hs (by omega) hh)) (.inl rfl)
/-- The document's scan goes on so, again and again. -/
def rsN (q : Rs → Rs) : Nat → Rs → Rs
  | 0, r => r
  | k + 1, r => rsN q k (q r)
theorem rsN_next (q : Rs → Rs) : ∀ (k : Nat) (r : Rs), rsN q (k + 1) r = q (rsN q k r)
  | 0, _ => rfl
  | k + 1, r => by rw [rsN, rsN_next q k]; rfl
theorem rsN_abs {α : Type} (v : Sta → α) {s : Sta → Sta} {q : Rs → Rs} (hq : ∀ r, rabs (q r) = s (rabs r)) : ∀ (k : Nat) (r : Rs), rabs (rsN q k r) = (readR v s k (rabs r)).2
  | 0, _ => rfl
  | k + 1, r => by rw [rsN, rsN_abs v hq k, hq]; rfl
theorem rsN_bad {q : Rs → Rs} (hb : ∀ r, rabs r = none → q r = r) : ∀ (k : Nat) {r : Rs}, rabs r = none → rsN q k r = r
  | 0, _, _ => rfl
  | k + 1, r, h => by rw [rsN, hb r h, rsN_bad hb k h]
theorem rsN_add (q : Rs → Rs) : ∀ (k j : Nat) (r : Rs), rsN q (j + k) r = rsN q k (rsN q j r)
  | k, 0, r => by rw [Nat.zero_add]; rfl
  | k, j + 1, r => by rw [Nat.add_right_comm, rsN, rsN_add q k j]; rfl
def listRs (q : Rs → Rs) (r : Rs) : Rs := rsN q (numV (rabs r) 2).toNat (rstep (numS · 2) r)
theorem listRs_abs {α : Type} (v : Sta → α) {s : Sta → Sta} {q : Rs → Rs} (hq : ∀ r, rabs (q r) = s (rabs r)) (r : Rs) : rabs (listRs q r) = listS v s (rabs r) := by
  unfold listRs listS
  rw [rsN_abs v hq, rabs_step]
theorem listRs_bad {q : Rs → Rs} (hb : ∀ r, rabs r = none → q r = r) {r : Rs} (h : rabs r = none) : listRs q r = r := by
  unfold listRs
  rw [rstep_bad rfl h, rsN_bad hb _ h]

section
variable {α : Type} (v : Sta → α) (s : Sta → Sta) (q : Rs → Rs) (hq : ∀ r, rabs (q r) = s (rabs r)) (hb : ∀ r, rabs r = none → q r = r) (r : Rs) (n : Nat) (hn : numV (rabs r) 2 = n)
include hq hn
/-- Where the loop ends. -/
theorem list_end (hb : ∀ r, rabs r = none → q r = r) (j : Nat) (hj : j ≤ n) (h1 : ∀ t, t < j → rabs (rsN q t (rstep (numS · 2) r)) ≠ none) (h2 : j = n ∨ rabs (rsN q j (rstep (numS · 2) r)) = none) :
    listU v s (rabs r) = (readR v s j (numS (rabs r) 2)).1 ∧ listRs q r = rsN q j (rstep (numS · 2) r) := by
  constructor
  · unfold listU
    rw [hn, Int.toNat_natCast]
    refine readU_at v s n j _ hj (fun t ht => ?_) (h2.imp id fun h => ?_)
    · rw [← rabs_step (numS · 2), ← rsN_abs v hq]; exact h1 t ht
    · rw [← rabs_step (numS · 2), ← rsN_abs v hq]; exact h
  · unfold listRs
    rw [hn, Int.toNat_natCast]
    rcases h2 with rfl | h2
    · rfl
    · obtain ⟨k, rfl⟩ : ∃ k, n = j + k := ⟨n - j, by omega⟩
      rw [rsN_add, rsN_bad hb _ h2]
end
theorem rabs_none {r : Rs} (h : rabs r = none) : r.2 = true := by
  obtain ⟨b, no⟩ := r
  cases no with
  | true => rfl
  | false => cases h
theorem rabs_some {r : Rs} (h : rabs r ≠ none) : r.2 = false := by
  obtain ⟨b, no⟩ := r
  cases no with
  | true => exact absurd rfl h
  | false => rfl
theorem rsC_eq (r : Rs) : rsC r = [.sl 1 (bytesE r.1) none .no, .v (.bool r.2)] := rfl

theorem numS_len (st : Sta) (n : Int) : He.lenS (numS st n) ≤ He.lenS st := by
  unfold numS; split
  · split
    · simp [He.lenS]
    · simp [He.lenS]
  · exact Nat.le_refl _
theorem takeS_len (st : Sta) (n : Int) : He.lenS (takeS st n) ≤ He.lenS st := by
  unfold takeS; split
  · split
    · simp [He.lenS]
    · simp [He.lenS]
  · exact Nat.le_refl _
theorem cellS_len (st : Sta) : He.lenS (cellS st) ≤ He.lenS st := by
  unfold cellS; split
  · exact numS_len _ _
  · exact Nat.le_trans (takeS_len _ _) (numS_len _ _)
/-- The document's scan behind a cell. -/
def rcellQ (r : Rs) : Rs := if numV (rabs r) 4 = 4294967295 then rstep (numS · 4) r else rstep (takeS · (numV (rabs r) 4)) (rstep (numS · 4) r)
theorem rcell_abs (r : Rs) : rabs (rcellQ r) = cellS (rabs r) := by
  unfold rcellQ cellS
  split
  · rw [rabs_step]
  · rw [rabs_step, rabs_step]
theorem rcell_bad {r : Rs} (h : rabs r = none) : rcellQ r = r := by
  unfold rcellQ
  split
  · exact rstep_bad rfl h
  · rw [rstep_bad (f := (numS · 4)) rfl h, rstep_bad rfl h]
end Go.Proofs.Ytanjmfcafalphaa.Ax
namespace Go.Proofs.Ytanjmfcafalphaa.Ax
open Go.RowKit Go By Nm Sc Dg
open He (textL)
set_option linter.unusedSimpArgs false
set_option linter.unusedVariables false

/-! ### Numbers -/
theorem getI_pre (xs ys : List UInt8) (i : Nat) : ∀ j, i + j ≤ xs.length → getI (xs ++ ys) i j = getI xs i j
  | 0, _ => rfl
  | j + 1, h => by rw [getI, getI, getI_pre xs ys i j (by omega), byteAt_append_left xs ys _ (by omega)]
def Sz (size : Nat) : Prop := size = 1 ∨ size = 2 ∨ size = 4
theorem Sz.szB {size : Nat} (h : Sz size) : szB (size : Int) = true := by rcases h with rfl | rfl | rfl <;> rfl
theorem Sz.pow {size : Nat} (h : Sz size) : powI (size : Int) = 256 ^ size := by rcases h with rfl | rfl | rfl <;> rfl
theorem right_iff {n : Int} {size : Nat} (h : Sz size) : rightB n size = true ↔ -(256 ^ size / 2) ≤ n ∧ n < 256 ^ size := by
  unfold rightB; rw [h.szB, h.pow]; simp
theorem right_of_range {n : Int} {size : Nat} (h : Sz size) (h0 : 0 ≤ n) (h1 : n < 256 ^ size) : rightB n size = true := (right_iff h).2 ⟨by rcases h with rfl | rfl | rfl <;> omega, h1⟩
theorem getI_putTo (n : Int) {size : Nat} (h : Sz size) : getI (putTo n size size) 0 size = n % 256 ^ size := by
  rcases h with rfl | rfl | rfl
  · simp [getI, putTo, byteAt, putByte_val]
  · simp [getI, putTo, byteAt, putByte_val]; omega
  · simp [getI, putTo, byteAt, putByte_val]; omega
theorem putL_right {n : Int} {size : Nat} (hr : rightB n size = true) : putL [] n size = putTo n size size := by
  unfold putL; rw [if_pos hr]; simp
theorem num_put {n : Int} {size : Nat} (h : Sz size) (r : List UInt8) (hr : rightB n size = true) : numV (some (putL [] n size ++ r)) size = n % 256 ^ size ∧ numS (some (putL [] n size ++ r)) size = some r := by
  rw [putL_right hr]
  have h4 : (putTo n size size).length = size := putTo_length _ _ _
  have he : getErr (putTo n size size ++ r).length 0 size = 0 := getErr_ok (size := size) (i := 0) h.szB (by rw [List.length_append, h4]; omega)
  simp only [numV, numS]
  rw [if_pos he, if_pos he]
  constructor
  · show getI (putTo n size size ++ r) 0 size = _
    rw [getI_pre _ _ _ _ (by rw [h4]; omega), getI_putTo n h]
  · show some ((putTo n size size ++ r).drop size) = some r
    rw [List.drop_append_of_le_length (by rw [h4]; omega), List.drop_of_length_le (by rw [h4]; omega)]; rfl
theorem putByte_of (x : UInt8) (n : Int) (k : Nat) (h : n / 256 ^ k % 256 = (x.toNat : Int)) : putByte n k = x := by
  unfold putByte
  rw [h, Int.toNat_natCast]
  simp
theorem putTo_getI {size : Nat} (h : Sz size) (xs : List UInt8) (hl : xs.length = size) : putTo (getI xs 0 size) size size = xs := by
  rcases h with rfl | rfl | rfl
  · match xs, hl with
    | [a], _ =>
      have ha := a.toNat_lt
      have h0 := putByte_of a (a.toNat : Int) 0 (by omega)
      have e : getI [a] 0 1 = (a.toNat : Int) := by simp [getI, byteAt]
      rw [e]; simp [putTo, h0]
  · match xs, hl with
    | [a, b], _ =>
      have ha := a.toNat_lt; have hb := b.toNat_lt
      have h1 := putByte_of a ((a.toNat : Int) * 256 + (b.toNat : Int)) 1 (by omega)
      have h0 := putByte_of b ((a.toNat : Int) * 256 + (b.toNat : Int)) 0 (by omega)
      have e : getI [a, b] 0 2 = (a.toNat : Int) * 256 + (b.toNat : Int) := by simp [getI, byteAt]
      rw [e]; simp [putTo, h0, h1]
  · match xs, hl with
    | [a, b, c, d], _ =>
      have ha := a.toNat_lt; have hb := b.toNat_lt; have hc := c.toNat_lt; have hd := d.toNat_lt
      have e : getI [a, b, c, d] 0 4 = ((a.toNat : Int) * 16777216 + (b.toNat : Int) * 65536 + (c.toNat : Int) * 256 + (d.toNat : Int)) := by
        simp [getI, byteAt]; omega
      rw [e]
      have h3 := putByte_of a ((a.toNat : Int) * 16777216 + (b.toNat : Int) * 65536 + (c.toNat : Int) * 256 + (d.toNat : Int)) 3 (by omega)
      have h2 := putByte_of b ((a.toNat : Int) * 16777216 + (b.toNat : Int) * 65536 + (c.toNat : Int) * 256 + (d.toNat : Int)) 2 (by omega)
      have h1 := putByte_of c ((a.toNat : Int) * 16777216 + (b.toNat : Int) * 65536 + (c.toNat : Int) * 256 + (d.toNat : Int)) 1 (by omega)
      have h0 := putByte_of d ((a.toNat : Int) * 16777216 + (b.toNat : Int) * 65536 + (c.toNat : Int) * 256 + (d.toNat : Int)) 0 (by omega)
      simp [putTo, h0, h1, h2, h3]
theorem num_back {size : Nat} (hs : Sz size) {xs r : List UInt8} (h : numS (some xs) size = some r) : xs = putL [] (numV (some xs) size) size ++ r ∧ 0 ≤ numV (some xs) size ∧ numV (some xs) size < 256 ^ size := by
  simp only [numS] at h
  split at h
  · rename_i he
    have hz := getErr_zero he
    injection h with h
    rw [Int.toNat_natCast] at h
    have hl : size ≤ xs.length := by omega
    have e0 : xs = xs.take size ++ r := by rw [← h, List.take_append_drop]
    have hlt : (xs.take size).length = size := by rw [List.length_take]; omega
    have e : numV (some xs) size = getI (xs.take size) 0 size := by
      simp only [numV]
      rw [if_pos he, Int.toNat_natCast]
      conv => lhs; rw [e0]
      exact getI_pre _ _ _ _ (by omega)
    have hr := getI_range (xs.take size) 0 size (by rcases hs with rfl | rfl | rfl <;> omega)
    rw [e, putL_right (right_of_range hs hr.1 hr.2), putTo_getI hs _ hlt]
    exact ⟨e0, hr⟩
  · cases h

theorem listS_eq {α : Type} (v : Sta → α) (s : Sta → Sta) (st : Sta) : listS v s st = (readR v s (numV st 2).toNat (numS st 2)).2 := rfl
theorem listV_eq {α : Type} (v : Sta → α) (s : Sta → Sta) (st : Sta) : listV v s st = if (readR v s (numV st 2).toNat (numS st 2)).2 = none then [] else (readR v s (numV st 2).toNat (numS st 2)).1 := rfl
theorem listL_eq {α : Type} (e : α → List UInt8) (l : List α) : listL e l = putL [] l.length 2 ++ l.flatMap e := rfl
theorem cellV_eq (st : Sta) : cellV st = if numV st 4 = 4294967295 then (true, []) else (false, takeL (numS st 4) (numV st 4)) := rfl
theorem cellS_eq (st : Sta) : cellS st = if numV st 4 = 4294967295 then numS st 4 else takeS (numS st 4) (numV st 4) := rfl
theorem two : ((2 : Nat) : Int) = 2 := rfl
theorem four : ((4 : Nat) : Int) = 4 := rfl

/-! ### Again and again -/
section
variable {α : Type} (e : α → List UInt8) (v : Sta → α) (s : Sta → Sta) (ok : α → Prop)
def There : Prop := ∀ x r, ok x → v (some (e x ++ r)) = x ∧ s (some (e x ++ r)) = some r
def Back : Prop := s none = none ∧ ∀ xs r, s (some xs) = some r → xs = e (v (some xs)) ++ r ∧ ok (v (some xs))
variable {e v s ok}
theorem readR_there (hT : There e v s ok) : ∀ (l : List α) (r : List UInt8), (∀ x ∈ l, ok x) → readR v s l.length (some (l.flatMap e ++ r)) = (l, some r)
  | [], r, _ => rfl
  | x :: l, r, h => by
    obtain ⟨h1, h2⟩ := hT x (l.flatMap e ++ r) (h x (List.mem_cons_self ..))
    have e1 : (x :: l).flatMap e ++ r = e x ++ (l.flatMap e ++ r) := by simp
    rw [e1, List.length_cons, readR, h1, h2, readR_there hT l r fun y hy => h y (List.mem_cons_of_mem _ hy)]
theorem readR_back (hB : Back e v s ok) : ∀ (k : Nat) (xs r : List UInt8), (readR v s k (some xs)).2 = some r → xs = (readR v s k (some xs)).1.flatMap e ++ r ∧ ∀ x ∈ (readR v s k (some xs)).1, ok x
  | 0, xs, r, h => by
    injection h with h; subst h
    exact ⟨rfl, fun x hx => by cases hx⟩
  | k + 1, xs, r, h => by
    simp only [readR] at h ⊢
    cases hs : s (some xs) with
    | none => rw [hs, readR_none v s hB.1 k] at h; cases h
    | some ys =>
      rw [hs] at h
      obtain ⟨h1, h2⟩ := hB.2 xs ys hs
      obtain ⟨h3, h4⟩ := readR_back hB k ys r h
      refine ⟨?_, fun x hx => ?_⟩
      · rw [List.flatMap_cons, List.append_assoc, ← h3, ← h1]
      · rcases List.mem_cons.1 hx with rfl | hx
        · exact h2
        · exact h4 x hx
theorem list_there (hT : There e v s ok) (l : List α) (r : List UInt8) (hl : l.length < 65536) (h : ∀ x ∈ l, ok x) : listV v s (some (listL e l ++ r)) = l ∧ listS v s (some (listL e l ++ r)) = some r := by
  have hr : rightB (l.length : Int) (2 : Nat) = true := right_of_range (.inr (.inl rfl)) (by omega) (by omega)
  obtain ⟨h1, h2⟩ := num_put (.inr (.inl rfl)) (l.flatMap e ++ r) hr
  rw [Int.emod_eq_of_lt (by omega) (by omega), two] at h1
  rw [two] at h2
  have h3 := readR_there hT l r h
  rw [listV_eq, listS_eq, listL_eq]
  rw [List.append_assoc, h1, h2, Int.toNat_natCast, h3]
  exact ⟨if_neg (by simp), rfl⟩
theorem list_back (hB : Back e v s ok) (xs r : List UInt8) (h : listS v s (some xs) = some r) : xs = listL e (listV v s (some xs)) ++ r ∧ (∀ x ∈ listV v s (some xs), ok x) ∧ (listV v s (some xs)).length < 65536 := by
  have hV : listV v s (some xs) = (readR v s (numV (some xs) 2).toNat (numS (some xs) 2)).1 := by
    rw [listV_eq, if_neg (by rw [listS_eq] at h; rw [h]; simp)]
  rw [listS_eq] at h
  cases hn : numS (some xs) 2 with
  | none => rw [hn, readR_none v s hB.1] at h; cases h
  | some ys =>
    rw [hn] at h hV
    obtain ⟨h1, h2, h3⟩ := num_back (.inr (.inl rfl)) (size := 2) hn
    obtain ⟨h4, h5⟩ := readR_back hB _ ys r h
    have hlen : (listV v s (some xs)).length = (numV (some xs) 2).toNat := by rw [hV, readR_len]
    have hlt : (listV v s (some xs)).length < 65536 := by
      rw [hlen]
      have h3' : numV (some xs) 2 < 65536 := h3
      omega
    refine ⟨?_, by rw [hV]; exact h5, hlt⟩
    have hc : ((listV v s (some xs)).length : Int) = numV (some xs) 2 := by
      have h2' : 0 ≤ numV (some xs) 2 := h2
      rw [hlen]; omega
    rw [listL_eq, hc, hV, List.append_assoc, ← h4]
    exact h1
end
theorem nums_there {size : Nat} (h : Sz size) : There (numE size) (numV · size) (numS · size) (fun n => 0 ≤ n ∧ n < 256 ^ size) := fun n r hn => by
  obtain ⟨h1, h2⟩ := num_put h r (right_of_range h hn.1 hn.2)
  rw [Int.emod_eq_of_lt hn.1 hn.2] at h1
  exact ⟨h1, h2⟩
theorem nums_back {size : Nat} (h : Sz size) : Back (numE size) (numV · size) (numS · size) (fun n => 0 ≤ n ∧ n < 256 ^ size) := ⟨rfl, fun xs r hr => num_back h hr⟩
/-- What a cell may be in bytes. -/
def CellOk (c : Cl) : Prop := (c.1 = true ∧ c.2 = []) ∨ (c.1 = false ∧ c.2.length < 4294967295)
theorem take_pre (b r : List UInt8) : takeL (some (b ++ r)) b.length = b ∧ takeS (some (b ++ r)) b.length = some r := by
  have h : takeB (b ++ r) b.length = true := by simp [takeB]; omega
  simp [takeL, takeS, h]
theorem cells_there : There cellE cellV cellS CellOk := fun c r hc => by
  obtain ⟨n, b⟩ := c
  rcases hc with ⟨h1, h2⟩ | ⟨h1, h2⟩
  · have h1' : n = true := h1
    have h2' : b = [] := h2
    subst h1' h2'
    have h4 : (256 : Int) ^ 4 = 4294967296 := by decide
    obtain ⟨h3, h5⟩ := num_put (n := 4294967295) (size := 4) (.inr (.inr rfl)) r (by rw [right_iff (.inr (.inr rfl)), h4]; omega)
    have h3' : numV (some (putL [] 4294967295 4 ++ r)) 4 = 4294967295 := by have := h3; rw [h4] at this; exact this
    have h5' : numS (some (putL [] 4294967295 4 ++ r)) 4 = some r := h5
    rw [cellE_null]
    rw [cellV_eq, cellS_eq, if_pos h3', if_pos h3', h5']
    exact ⟨rfl, rfl⟩
  · have h1' : n = false := h1
    subst h1'
    have h2' : b.length < 4294967295 := h2
    have h4 : (256 : Int) ^ 4 = 4294967296 := by decide
    obtain ⟨h3, h5⟩ := num_put (n := b.length) (size := 4) (.inr (.inr rfl)) (b ++ r) (by rw [right_iff (.inr (.inr rfl)), h4]; omega)
    have h3' : numV (some (putL [] b.length 4 ++ (b ++ r))) 4 = b.length := by have := h3; rw [h4, Int.emod_eq_of_lt (by omega) (by omega)] at this; exact this
    have h5' : numS (some (putL [] b.length 4 ++ (b ++ r))) 4 = some (b ++ r) := h5
    obtain ⟨h6, h7⟩ := take_pre b r
    rw [cellE_bytes, List.append_assoc]
    rw [cellV_eq, cellS_eq, if_neg (by rw [h3']; omega), if_neg (by rw [h3']; omega), h3', h5', h6, h7]
    exact ⟨rfl, rfl⟩
theorem take_back {xs r : List UInt8} {n : Int} (h : takeS (some xs) n = some r) : xs = takeL (some xs) n ++ r ∧ ((takeL (some xs) n).length : Int) = n := by
  simp only [takeS] at h
  split at h
  · rename_i hb
    obtain ⟨h1, h2⟩ := takeB_yes hb
    injection h with h
    simp only [takeL]
    rw [if_pos hb]
    refine ⟨by rw [← h, List.take_append_drop], ?_⟩
    rw [List.length_take]; omega
  · cases h
theorem cells_back : Back cellE cellV cellS CellOk := ⟨cellS_none, fun xs r h => by
  have h4 : (256 : Int) ^ 4 = 4294967296 := by decide
  rw [cellS_eq] at h
  split at h
  · rename_i hn
    obtain ⟨h1, _, _⟩ := num_back (size := 4) (.inr (.inr rfl)) h
    have hv : cellV (some xs) = (true, []) := if_pos hn
    have h1' : xs = putL [] (numV (some xs) 4) 4 ++ r := h1
    rw [hv, cellE_null]
    rw [hn] at h1'
    exact ⟨h1', .inl ⟨rfl, rfl⟩⟩
  · rename_i hn
    cases hs : numS (some xs) 4 with
    | none => rw [hs] at h; cases h
    | some ys =>
      rw [hs] at h
      obtain ⟨h1, h2, h3⟩ := num_back (size := 4) (.inr (.inr rfl)) hs
      have h1' : xs = putL [] (numV (some xs) 4) 4 ++ ys := h1
      have h2' : 0 ≤ numV (some xs) 4 := h2
      have h3' : numV (some xs) 4 < 4294967296 := by rw [← h4]; exact h3
      obtain ⟨h5, h6⟩ := take_back h
      have hv : cellV (some xs) = (false, takeL (some ys) (numV (some xs) 4)) := by rw [cellV_eq, if_neg hn, hs]
      rw [hv, cellE_bytes, h6, List.append_assoc, ← h5]
      exact ⟨h1', .inr ⟨rfl, by show (takeL (some ys) (numV (some xs) 4)).length < 4294967295; omega⟩⟩⟩
theorem done_nil {s : Sta} (h : doneB s = true) : s = some [] := by
  cases s with
  | none => cases h
  | some xs => cases xs with
    | nil => rfl
    | cons x xs => cases h
end Go.Proofs.Ytanjmfcafalphaa.Ax
