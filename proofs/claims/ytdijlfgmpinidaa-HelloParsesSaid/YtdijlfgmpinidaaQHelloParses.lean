/- Any bytes' first message is what the document says, or refused (P5.1, P5.2). -/
import Derived.Test.YtdijlfgmpinidaaQAxWo
import Derived.Test.YtdijlfgmpinidaaQAxFq
import Derived.Test.YtdijlfgmpinidaaQAxHh
import Derived.Test.YtdijlfgmpinidaaRows
import Derived.Test.YtdijlfgmpinidaaQElems
import Derived.Test.YtdijlfgmpinidaaQAxX
import Derived.Test.YtdijlfgmpinidaaQAxTz
import Derived.WalkKit
import Derived.ProofKit
import Derived.OpenShut
import Derived.ShutString
import Derived.ChangeOld
import Derived.Below
/- Numbers, texts and lists there and back, on lists of bytes. -/
namespace Go.Proofs.Ytdijlfgmpinidaa.Ax
open Go.RowKit Go By Nm Sc Dg
open He (textL)
set_option linter.unusedSimpArgs false
set_option linter.unusedVariables false

/-! ### Numbers -/
theorem getI_pre (xs ys : List UInt8) (i : Nat) : ∀ j, i + j ≤ xs.length → getI (xs ++ ys) i j = getI xs i j
  | 0, _ => rfl
  | j + 1, h => by rw [getI, getI, getI_pre xs ys i j (by omega), byteAt_append_left xs ys _ (by omega)]
def Sz (size : Nat) : Prop := size = 1 ∨ size = 2 ∨ size = 4
theorem Sz.szB {size : Nat} (h : Sz size) : szB (size : Int) = true := by rcases h with rfl | rfl | rfl <;> rfl
theorem Sz.pow {size : Nat} (h : Sz size) : powI (size : Int) = 256 ^ size := by rcases h with rfl | rfl | rfl <;> rfl
theorem right_iff {n : Int} {size : Nat} (h : Sz size) : rightB n size = true ↔ -(256 ^ size / 2) ≤ n ∧ n < 256 ^ size := by
  unfold rightB; rw [h.szB, h.pow]; simp
theorem right_of_range {n : Int} {size : Nat} (h : Sz size) (h0 : 0 ≤ n) (h1 : n < 256 ^ size) : rightB n size = true := (right_iff h).2 ⟨by rcases h with rfl | rfl | rfl <;> omega, h1⟩
theorem getI_putTo (n : Int) {size : Nat} (h : Sz size) : getI (putTo n size size) 0 size = n % 256 ^ size := by
  rcases h with rfl | rfl | rfl
  · simp [getI, putTo, byteAt, putByte_val]
  · simp [getI, putTo, byteAt, putByte_val]; omega
  · simp [getI, putTo, byteAt, putByte_val]; omega
theorem putL_right {n : Int} {size : Nat} (hr : rightB n size = true) : putL [] n size = putTo n size size := by
  unfold putL; rw [if_pos hr]; simp
theorem num_put {n : Int} {size : Nat} (h : Sz size) (r : List UInt8) (hr : rightB n size = true) : numV (some (putL [] n size ++ r)) size = n % 256 ^ size ∧ numS (some (putL [] n size ++ r)) size = some r := by
  rw [putL_right hr]
  have h4 : (putTo n size size).length = size := putTo_length _ _ _
  have he : getErr (putTo n size size ++ r).length 0 size = 0 := getErr_ok (size := size) (i := 0) h.szB (by rw [List.length_append, h4]; omega)
  simp only [numV, numS]
  rw [if_pos he, if_pos he]
  constructor
  · show getI (putTo n size size ++ r) 0 size = _
    rw [getI_pre _ _ _ _ (by rw [h4]; omega), getI_putTo n h]
  · show some ((putTo n size size ++ r).drop size) = some r
    rw [List.drop_append_of_le_length (by rw [h4]; omega), List.drop_of_length_le (by rw [h4]; omega)]; rfl
theorem putByte_of (x : UInt8) (n : Int) (k : Nat) (h : n / 256 ^ k % 256 = (x.toNat : Int)) : putByte n k = x := by
  unfold putByte
  rw [h, Int.toNat_natCast]
  simp
theorem putTo_getI {size : Nat} (h : Sz size) (xs : List UInt8) (hl : xs.length = size) : putTo (getI xs 0 size) size size = xs := by
  rcases h with rfl | rfl | rfl
  · match xs, hl with
    | [a], _ =>
      have ha := a.toNat_lt
      have h0 := putByte_of a (a.toNat : Int) 0 (by omega)
      have e : getI [a] 0 1 = (a.toNat : Int) := by simp [getI, byteAt]
      rw [e]; simp [putTo, h0]
  · match xs, hl with
    | [a, b], _ =>
      have ha := a.toNat_lt; have hb := b.toNat_lt
      have h1 := putByte_of a ((a.toNat : Int) * 256 + (b.toNat : Int)) 1 (by omega)
      have h0 := putByte_of b ((a.toNat : Int) * 256 + (b.toNat : Int)) 0 (by omega)
      have e : getI [a, b] 0 2 = (a.toNat : Int) * 256 + (b.toNat : Int) := by simp [getI, byteAt]
      rw [e]; simp [putTo, h0, h1]
  · match xs, hl with
    | [a, b, c, d], _ =>
      have ha := a.toNat_lt; have hb := b.toNat_lt; have hc := c.toNat_lt; have hd := d.toNat_lt
      have e : getI [a, b, c, d] 0 4 = ((a.toNat : Int) * 16777216 + (b.toNat : Int) * 65536 + (c.toNat : Int) * 256 + (d.toNat : Int)) := by
        simp [getI, byteAt]; omega
      rw [e]
      have h3 := putByte_of a ((a.toNat : Int) * 16777216 + (b.toNat : Int) * 65536 + (c.toNat : Int) * 256 + (d.toNat : Int)) 3 (by omega)
      have h2 := putByte_of b ((a.toNat : Int) * 16777216 + (b.toNat : Int) * 65536 + (c.toNat : Int) * 256 + (d.toNat : Int)) 2 (by omega)
      have h1 := putByte_of c ((a.toNat : Int) * 16777216 + (b.toNat : Int) * 65536 + (c.toNat : Int) * 256 + (d.toNat : Int)) 1 (by omega)
      have h0 := putByte_of d ((a.toNat : Int) * 16777216 + (b.toNat : Int) * 65536 + (c.toNat : Int) * 256 + (d.toNat : Int)) 0 (by omega)
      simp [putTo, h0, h1, h2, h3]
theorem num_back {size : Nat} (hs : Sz size) {xs r : List UInt8} (h : numS (some xs) size = some r) : xs = putL [] (numV (some xs) size) size ++ r ∧ 0 ≤ numV (some xs) size ∧ numV (some xs) size < 256 ^ size := by
  simp only [numS] at h
  split at h
  · rename_i he
    have hz := getErr_zero he
    injection h with h
    rw [Int.toNat_natCast] at h
    have hl : size ≤ xs.length := by omega
    have e0 : xs = xs.take size ++ r := by rw [← h, List.take_append_drop]
    have hlt : (xs.take size).length = size := by rw [List.length_take]; omega
    have e : numV (some xs) size = getI (xs.take size) 0 size := by
      simp only [numV]
      rw [if_pos he, Int.toNat_natCast]
      conv => lhs; rw [e0]
      exact getI_pre _ _ _ _ (by omega)
    have hr := getI_range (xs.take size) 0 size (by rcases hs with rfl | rfl | rfl <;> omega)
    rw [e, putL_right (right_of_range hs hr.1 hr.2), putTo_getI hs _ hlt]
    exact ⟨e0, hr⟩
  · cases h

theorem listS_eq {α : Type} (v : Sta → α) (s : Sta → Sta) (st : Sta) : listS v s st = (readR v s (numV st 2).toNat (numS st 2)).2 := rfl
theorem listV_eq {α : Type} (v : Sta → α) (s : Sta → Sta) (st : Sta) : listV v s st = if (readR v s (numV st 2).toNat (numS st 2)).2 = none then [] else (readR v s (numV st 2).toNat (numS st 2)).1 := rfl
theorem listL_eq {α : Type} (e : α → List UInt8) (l : List α) : listL e l = putL [] l.length 2 ++ l.flatMap e := rfl
theorem cellV_eq (st : Sta) : cellV st = if numV st 4 = 4294967295 then (true, []) else (false, takeL (numS st 4) (numV st 4)) := rfl
theorem cellS_eq (st : Sta) : cellS st = if numV st 4 = 4294967295 then numS st 4 else takeS (numS st 4) (numV st 4) := rfl
theorem two : ((2 : Nat) : Int) = 2 := rfl
theorem four : ((4 : Nat) : Int) = 4 := rfl

/-! ### Again and again -/
section
variable {α : Type} (e : α → List UInt8) (v : Sta → α) (s : Sta → Sta) (ok : α → Prop)
def There : Prop := ∀ x r, ok x → v (some (e x ++ r)) = x ∧ s (some (e x ++ r)) = some r
def Back : Prop := s none = none ∧ ∀ xs r, s (some xs) = some r → xs = e (v (some xs)) ++ r ∧ ok (v (some xs))
variable {e v s ok}
theorem readR_there (hT : There e v s ok) : ∀ (l : List α) (r : List UInt8), (∀ x ∈ l, ok x) → readR v s l.length (some (l.flatMap e ++ r)) = (l, some r)
  | [], r, _ => rfl
  | x :: l, r, h => by
    obtain ⟨h1, h2⟩ := hT x (l.flatMap e ++ r) (h x (List.mem_cons_self ..))
    have e1 : (x :: l).flatMap e ++ r = e x ++ (l.flatMap e ++ r) := by simp
    rw [e1, List.length_cons, readR, h1, h2, readR_there hT l r fun y hy => h y (List.mem_cons_of_mem _ hy)]
theorem readR_back (hB : Back e v s ok) : ∀ (k : Nat) (xs r : List UInt8), (readR v s k (some xs)).2 = some r → xs = (readR v s k (some xs)).1.flatMap e ++ r ∧ ∀ x ∈ (readR v s k (some xs)).1, ok x
  | 0, xs, r, h => by
    injection h with h; subst h
    exact ⟨rfl, fun x hx => by cases hx⟩
  | k + 1, xs, r, h => by
    simp only [readR] at h ⊢
    cases hs : s (some xs) with
    | none => rw [hs, readR_none v s hB.1 k] at h; cases h
    | some ys =>
      rw [hs] at h
      obtain ⟨h1, h2⟩ := hB.2 xs ys hs
      obtain ⟨h3, h4⟩ := readR_back hB k ys r h
      refine ⟨?_, fun x hx => ?_⟩
      · rw [List.flatMap_cons, List.append_assoc, ← h3, ← h1]
      · rcases List.mem_cons.1 hx with rfl | hx
        · exact h2
        · exact h4 x hx
theorem list_there (hT : There e v s ok) (l : List α) (r : List UInt8) (hl : l.length < 65536) (h : ∀ x ∈ l, ok x) : listV v s (some (listL e l ++ r)) = l ∧ listS v s (some (listL e l ++ r)) = some r := by
  have hr : rightB (l.length : Int) (2 : Nat) = true := right_of_range (.inr (.inl rfl)) (by omega) (by omega)
  obtain ⟨h1, h2⟩ := num_put (.inr (.inl rfl)) (l.flatMap e ++ r) hr
  rw [Int.emod_eq_of_lt (by omega) (by omega), two] at h1
  rw [two] at h2
  have h3 := readR_there hT l r h
  rw [listV_eq, listS_eq, listL_eq]
  rw [List.append_assoc, h1, h2, Int.toNat_natCast, h3]
  exact ⟨if_neg (by simp), rfl⟩
theorem list_back (hB : Back e v s ok) (xs r : List UInt8) (h : listS v s (some xs) = some r) : xs = listL e (listV v s (some xs)) ++ r ∧ (∀ x ∈ listV v s (some xs), ok x) ∧ (listV v s (some xs)).length < 65536 := by
  have hV : listV v s (some xs) = (readR v s (numV (some xs) 2).toNat (numS (some xs) 2)).1 := by
    rw [listV_eq, if_neg (by rw [listS_eq] at h; rw [h]; simp)]
  rw [listS_eq] at h
  cases hn : numS (some xs) 2 with
  | none => rw [hn, readR_none v s hB.1] at h; cases h
  | some ys =>
    rw [hn] at h hV
    obtain ⟨h1, h2, h3⟩ := num_back (.inr (.inl rfl)) (size := 2) hn
    obtain ⟨h4, h5⟩ := readR_back hB _ ys r h
    have hlen : (listV v s (some xs)).length = (numV (some xs) 2).toNat := by rw [hV, readR_len]
    have hlt : (listV v s (some xs)).length < 65536 := by
      rw [hlen]
      have h3' : numV (some xs) 2 < 65536 := h3
      omega
    refine ⟨?_, by rw [hV]; exact h5, hlt⟩
    have hc : ((listV v s (some xs)).length : Int) = numV (some xs) 2 := by
      have h2' : 0 ≤ numV (some xs) 2 := h2
      rw [hlen]; omega
    rw [listL_eq, hc, hV, List.append_assoc, ← h4]
    exact h1
end
theorem nums_there {size : Nat} (h : Sz size) : There (numE size) (numV · size) (numS · size) (fun n => 0 ≤ n ∧ n < 256 ^ size) := fun n r hn => by
  obtain ⟨h1, h2⟩ := num_put h r (right_of_range h hn.1 hn.2)
  rw [Int.emod_eq_of_lt hn.1 hn.2] at h1
  exact ⟨h1, h2⟩
theorem nums_back {size : Nat} (h : Sz size) : Back (numE size) (numV · size) (numS · size) (fun n => 0 ≤ n ∧ n < 256 ^ size) := ⟨rfl, fun xs r hr => num_back h hr⟩
/-- What a cell may be in bytes. -/
def CellOk (c : Cl) : Prop := (c.1 = true ∧ c.2 = []) ∨ (c.1 = false ∧ c.2.length < 4294967295)
theorem take_pre (b r : List UInt8) : takeL (some (b ++ r)) b.length = b ∧ takeS (some (b ++ r)) b.length = some r := by
  have h : takeB (b ++ r) b.length = true := by simp [takeB]; omega
  simp [takeL, takeS, h]
theorem cells_there : There cellE cellV cellS CellOk := fun c r hc => by
  obtain ⟨n, b⟩ := c
  rcases hc with ⟨h1, h2⟩ | ⟨h1, h2⟩
  · have h1' : n = true := h1
    have h2' : b = [] := h2
    subst h1' h2'
    have h4 : (256 : Int) ^ 4 = 4294967296 := by decide
    obtain ⟨h3, h5⟩ := num_put (n := 4294967295) (size := 4) (.inr (.inr rfl)) r (by rw [right_iff (.inr (.inr rfl)), h4]; omega)
    have h3' : numV (some (putL [] 4294967295 4 ++ r)) 4 = 4294967295 := by have := h3; rw [h4] at this; exact this
    have h5' : numS (some (putL [] 4294967295 4 ++ r)) 4 = some r := h5
    rw [cellE_null]
    rw [cellV_eq, cellS_eq, if_pos h3', if_pos h3', h5']
    exact ⟨rfl, rfl⟩
  · have h1' : n = false := h1
    subst h1'
    have h2' : b.length < 4294967295 := h2
    have h4 : (256 : Int) ^ 4 = 4294967296 := by decide
    obtain ⟨h3, h5⟩ := num_put (n := b.length) (size := 4) (.inr (.inr rfl)) (b ++ r) (by rw [right_iff (.inr (.inr rfl)), h4]; omega)
    have h3' : numV (some (putL [] b.length 4 ++ (b ++ r))) 4 = b.length := by have := h3; rw [h4, Int.emod_eq_of_lt (by omega) (by omega)] at this; exact this
    have h5' : numS (some (putL [] b.length 4 ++ (b ++ r))) 4 = some (b ++ r) := h5
    obtain ⟨h6, h7⟩ := take_pre b r
    rw [cellE_bytes, List.append_assoc]
    rw [cellV_eq, cellS_eq, if_neg (by rw [h3']; omega), if_neg (by rw [h3']; omega), h3', h5', h6, h7]
    exact ⟨rfl, rfl⟩
theorem take_back {xs r : List UInt8} {n : Int} (h : takeS (some xs) n = some r) : xs = takeL (some xs) n ++ r ∧ ((takeL (some xs) n).length : Int) = n := by
  simp only [takeS] at h
  split at h
  · rename_i hb
    obtain ⟨h1, h2⟩ := takeB_yes hb
    injection h with h
    simp only [takeL]
    rw [if_pos hb]
    refine ⟨by rw [← h, List.take_append_drop], ?_⟩
    rw [List.length_take]; omega
  · cases h
theorem cells_back : Back cellE cellV cellS CellOk := ⟨cellS_none, fun xs r h => by
  have h4 : (256 : Int) ^ 4 = 4294967296 := by decide
  rw [cellS_eq] at h
  split at h
  · rename_i hn
    obtain ⟨h1, _, _⟩ := num_back (size := 4) (.inr (.inr rfl)) h
    have hv : cellV (some xs) = (true, []) := if_pos hn
    have h1' : xs = putL [] (numV (some xs) 4) 4 ++ r := h1
    rw [hv, cellE_null]
    rw [hn] at h1'
    exact ⟨h1', .inl ⟨rfl, rfl⟩⟩
  · rename_i hn
    cases hs : numS (some xs) 4 with
    | none => rw [hs] at h; cases h
    | some ys =>
      rw [hs] at h
      obtain ⟨h1, h2, h3⟩ := num_back (size := 4) (.inr (.inr rfl)) hs
      have h1' : xs = putL [] (numV (some xs) 4) 4 ++ ys := h1
      have h2' : 0 ≤ numV (some xs) 4 := h2
      have h3' : numV (some xs) 4 < 4294967296 := by rw [← h4]; exact h3
      obtain ⟨h5, h6⟩ := take_back h
      have hv : cellV (some xs) = (false, takeL (some ys) (numV (some xs) 4)) := by rw [cellV_eq, if_neg hn, hs]
      rw [hv, cellE_bytes, h6, List.append_assoc, ← h5]
      exact ⟨h1', .inr ⟨rfl, by show (takeL (some ys) (numV (some xs) 4)).length < 4294967295; omega⟩⟩⟩
theorem done_nil {s : Sta} (h : doneB s = true) : s = some [] := by
  cases s with
  | none => cases h
  | some xs => cases xs with
    | nil => rfl
    | cons x xs => cases h
end Go.Proofs.Ytdijlfgmpinidaa.Ax
/- Front's messages there and back, on lists of bytes: what both sides check is one; what is read has just these bytes. -/
namespace Go.Proofs.Ytdijlfgmpinidaa.Ax
open Go.RowKit Go By Nm Sc Dg
open He (textL)
set_option linter.unusedSimpArgs false
set_option linter.unusedVariables false

/-! ### What both sides check is one -/
theorem p256_4 : (256 : Int) ^ 4 = 4294967296 := by decide
theorem p256_2 : (256 : Int) ^ 2 = 65536 := by decide
theorem right4 (n : Int) : rightB n 4 = true ↔ -2147483648 ≤ n ∧ n < 4294967296 := by
  have h := @right_iff n 4 (.inr (.inr rfl))
  rw [four, p256_4] at h
  rw [h]; omega
theorem right2 (n : Int) : rightB n 2 = true ↔ -32768 ≤ n ∧ n < 65536 := by
  have h := @right_iff n 2 (.inr (.inl rfl))
  rw [two, p256_2] at h
  rw [h]; omega
theorem uns4 : unsB 4 = betB 0 4294967295 := by
  funext n
  rw [Bool.eq_iff_iff]
  simp [unsB, betB, right4]; omega
theorem uns2 : unsB 2 = betB 0 65535 := by
  funext n
  rw [Bool.eq_iff_iff]
  simp [unsB, betB, right2]; omega
theorem signed4 (n : Int) : signedI n 4 = if 2147483648 ≤ n ∧ n < 4294967296 then n - 4294967296 else n := by
  have e : szB 4 = true := rfl
  have e2 : powI 4 = 4294967296 := rfl
  unfold signedI
  rw [e, e2]
  simp only [true_and]
  split <;> split <;> omega
theorem sgn4 (n : Int) : sgnB 4 n = betB (-2147483648) 2147483647 n := by
  have e : sgnB 4 n = true ↔ (-2147483648 ≤ n ∧ n < 4294967296) ∧ signedI n 4 = n := by
    simp only [sgnB, Bool.and_eq_true, right4, beq_iff_eq]
  have e2 : betB (-2147483648) 2147483647 n = true ↔ ¬ n < -2147483648 ∧ ¬ 2147483647 < n := by
    simp only [betB, Bool.and_eq_true, Bool.not_eq_true', decide_eq_false_iff_not]
  rw [Bool.eq_iff_iff, e, e2, signed4]
  by_cases h : 2147483648 ≤ n ∧ n < 4294967296
  · rw [if_pos h]; omega
  · rw [if_neg h]; omega
theorem lists_eq (m : Fm) : listsB m = rlistsB m := by
  rw [Bool.eq_iff_iff]
  simp only [listsB, rlistsB, uns4, uns2, Bool.and_eq_true]
  constructor
  · rintro ⟨⟨a, b, c, d⟩, e, f, g, h⟩; exact ⟨⟨a, e⟩, ⟨b, f⟩, ⟨c, g⟩, d, h⟩
  · rintro ⟨⟨a, e⟩, ⟨b, f⟩, ⟨c, g⟩, d, h⟩; exact ⟨⟨a, b, c, d⟩, e, f, g, h⟩
theorem said_what (m : Fm) (h67 : ¬ (m.kind = 67 ∨ m.kind = 68)) : (saidF m).what = 0 := by
  unfold saidF
  repeat' split
  all_goals first | rfl | (rename_i h; exact absurd h h67)
theorem check_eq (m : Fm) : checkF m = rcheckF m := by
  unfold checkF rcheckF
  by_cases hk : knownI m.kind = 1
  · have e1 : ¬ ¬ knownI m.kind = 1 := by simp [hk]
    rw [if_neg e1, if_neg e1, lists_eq, sgn4]
    by_cases hs : sameF m (saidF m) = true
    · have hw : whatB m = rwhatB m := by
        by_cases h67 : m.kind = 67 ∨ m.kind = 68
        · unfold rwhatB whatB
          rw [if_pos h67]
          rcases h67 with h | h <;> simp [h]
        · have h0 : m.what = 0 := by
            rw [sameF_eq] at hs
            have := congrArg Fm.what (of_decide_eq_true hs)
            rw [this]; exact said_what m h67
          have h1 : ¬ m.kind = 67 := fun h => h67 (.inl h)
          have h2 : ¬ m.kind = 68 := fun h => h67 (.inr h)
          unfold rwhatB whatB
          rw [if_neg h67]; simp [h0, h1, h2]
      rw [hw]
      congr 1
      rw [eq_iff_iff]
      simp only [Bool.and_eq_true]
      constructor
      · rintro ⟨a, b, c, d⟩; exact ⟨c, b, a, d⟩
      · rintro ⟨c, b, a, d⟩; exact ⟨a, b, c, d⟩
    · simp [hs]
  · rw [if_pos hk, if_pos hk]
theorem enc_eq (m : Fm) : encF m = rencF m := by unfold encF rencF; rw [check_eq]
theorem known_kinds {k : Int} (h : knownI k = 1) : k = 66 ∨ k = 67 ∨ k = 68 ∨ k = 69 ∨ k = 72 ∨ k = 80 ∨ k = 81 ∨ k = 83 ∨ k = 88 := by
  unfold knownI at h
  split at h
  · assumption
  · split at h <;> omega
theorem known_three (k : Int) : knownI k = 0 ∨ knownI k = 1 ∨ knownI k = 2 := by
  unfold knownI
  split
  · exact .inr (.inl rfl)
  · split
    · exact .inr (.inr rfl)
    · exact .inl rfl
theorem check_ok {m : Fm} (h : checkF m = 0) : knownI m.kind = 1 ∧ whatB m = true ∧ listsB m = true ∧ cleanF m = true ∧ sgnB 4 m.max = true ∧ m = saidF m := by
  unfold checkF at h
  split at h
  · cases h
  · rename_i hk
    split at h
    · rename_i hc
      simp only [Bool.and_eq_true] at hc
      rw [sameF_eq] at hc
      exact ⟨by simpa using hk, hc.1, hc.2.1, hc.2.2.1, hc.2.2.2.1, of_decide_eq_true hc.2.2.2.2⟩
    · cases h
theorem check_of {m : Fm} (h1 : knownI m.kind = 1) (h2 : whatB m = true) (h3 : listsB m = true) (h4 : cleanF m = true) (h5 : sgnB 4 m.max = true) (h6 : m = saidF m) : checkF m = 0 := by
  unfold checkF
  have h7 : sameF m (saidF m) = true := by rw [sameF_eq]; exact decide_eq_true h6
  rw [if_neg (by simp [h1]), h2, h3, h4, h5, h7]; rfl

/-! ### What is read, kind by kind -/
section
variable (st : Sta)
theorem readV_80 : readV 80 st = ⟨80, 0, textL st, [], textL (textS st), numbersV 4 (textS (textS st)), [], [], [], 0⟩ := rfl
theorem readS_80 : readS 80 st = numbersS 4 (textS (textS st)) := rfl
theorem readV_66 : readV 66 st = ⟨66, 0, textL (textS st), textL st, [], [], numbersV 2 (textS (textS st)), numbersV 2 (cellsS (numbersS 2 (textS (textS st)))), cellsV (numbersS 2 (textS (textS st))), 0⟩ := rfl
theorem readS_66 : readS 66 st = numbersS 2 (cellsS (numbersS 2 (textS (textS st)))) := rfl
theorem readV_678 {k : Int} (h : k = 67 ∨ k = 68) : readV k st = if numV st 1 = 83 then ⟨k, numV st 1, textL (numS st 1), [], [], [], [], [], [], 0⟩ else ⟨k, numV st 1, [], textL (numS st 1), [], [], [], [], [], 0⟩ := by
  rcases h with rfl | rfl <;> rfl
theorem readS_678 {k : Int} (h : k = 67 ∨ k = 68) : readS k st = textS (numS st 1) := by rcases h with rfl | rfl <;> rfl
theorem readV_69 : readV 69 st = ⟨69, 0, [], textL st, [], [], [], [], [], signedI (numV (textS st) 4) 4⟩ := rfl
theorem readS_69 : readS 69 st = numS (textS st) 4 := rfl
theorem readV_81 : readV 81 st = ⟨81, 0, [], [], textL st, [], [], [], [], 0⟩ := rfl
theorem readS_81 : readS 81 st = textS st := rfl
theorem readV_no {k : Int} (h : k = 72 ∨ k = 83 ∨ k = 88) : readV k st = ⟨k, 0, [], [], [], [], [], [], [], 0⟩ ∧ readS k st = st := by
  rcases h with rfl | rfl | rfl <;> exact ⟨rfl, rfl⟩
end
theorem listS_none {α : Type} (v : Sta → α) (s : Sta → Sta) (hs : s none = none) : listS v s none = none := by
  rw [listS_eq]; exact readR_none v s hs _
theorem numbersS_none (size : Int) : numbersS size none = none := listS_none _ _ rfl
theorem cellsS_none : cellsS none = none := listS_none _ _ cellS_none
theorem some_of {f : Sta → Sta} (hf : f none = none) {st : Sta} {r : List UInt8} (h : f st = some r) : ∃ xs, st = some xs := by
  cases st with
  | none => rw [hf] at h; cases h
  | some xs => exact ⟨xs, rfl⟩

/-! ### A message is read from its bytes -/
theorem all_uns {size : Int} {l : List Int} {size' : Nat} (hs : (size : Int) = size') (hz : Sz size') (h : l.all (unsB size) = true) : ∀ x ∈ l, 0 ≤ x ∧ x < 256 ^ size' := fun x hx => by
  have := List.all_eq_true.1 h x hx
  simp only [unsB, Bool.and_eq_true] at this
  rw [hs, right_iff hz] at this
  simp at this
  exact ⟨by omega, this.2.2⟩
theorem cell_ok {c : Cl} (h : cellB c = true) : CellOk c := by
  obtain ⟨n, b⟩ := c
  cases n with
  | true =>
    left
    refine ⟨rfl, ?_⟩
    simp [cellB] at h
    exact h.2
  | false =>
    right
    refine ⟨rfl, ?_⟩
    simp [cellB] at h
    show b.length < _
    omega
theorem one256 : (256 : Int) ^ 1 = 256 := by decide
theorem onecast : ((1 : Nat) : Int) = 1 := rfl
theorem read_there {m : Fm} (h : checkF m = 0) : readV m.kind (some (bodyF m)) = m ∧ readS m.kind (some (bodyF m)) = some [] := by
  obtain ⟨hk, hw, hl, hc, hm, hs⟩ := check_ok h
  simp only [cleanF, Bool.and_eq_true] at hc
  obtain ⟨c1, c2, c3⟩ := hc
  simp only [listsB, Bool.and_eq_true, decide_eq_true_eq] at hl
  obtain ⟨⟨l1, l2, l3, l4⟩, u1, u2, u3, u4⟩ := hl
  rcases known_kinds hk with e | e | e | e | e | e | e | e | e
  · -- B
    have hs' : m = ⟨66, 0, m.name, m.portal, [], [], m.formats, m.results, m.params, 0⟩ := by
      have : saidF m = ⟨66, 0, m.name, m.portal, [], [], m.formats, m.results, m.params, 0⟩ := by unfold saidF; rw [if_neg (by omega), if_pos e]
      rw [← this]; exact hs
    have hb : bodyF m = He.encT m.portal ++ (He.encT m.name ++ (listL (numE 2) m.formats ++ (listL cellE m.params ++ (listL (numE 2) m.results ++ [])))) := by
      unfold bodyF; rw [if_neg (by omega), if_pos e]; simp [textsL]
    obtain ⟨a1, a2⟩ := He.text_enc (He.encT m.name ++ (listL (numE 2) m.formats ++ (listL cellE m.params ++ (listL (numE 2) m.results ++ [])))) c2
    obtain ⟨a3, a4⟩ := He.text_enc (listL (numE 2) m.formats ++ (listL cellE m.params ++ (listL (numE 2) m.results ++ []))) c1
    obtain ⟨a5, a6⟩ := list_there (nums_there (size := 2) (.inr (.inl rfl))) m.formats (listL cellE m.params ++ (listL (numE 2) m.results ++ [])) (by omega) (all_uns rfl (.inr (.inl rfl)) u2)
    obtain ⟨a7, a8⟩ := list_there cells_there m.params (listL (numE 2) m.results ++ []) (by omega) (fun c hc => cell_ok (List.all_eq_true.1 u4 c hc))
    obtain ⟨a9, a10⟩ := list_there (nums_there (size := 2) (.inr (.inl rfl))) m.results [] (by omega) (all_uns rfl (.inr (.inl rfl)) u3)
    rw [e, hb, readV_66, readS_66]
    simp only [numbersV, numbersS, cellsV, cellsS]
    rw [two] at a5 a6 a9 a10
    rw [a1, a2, a3, a4, a5, a6, a7, a8, a9, a10]
    exact ⟨hs'.symm, rfl⟩
  · -- C, D
    have hs' : m = if m.what = 83 then ⟨m.kind, m.what, m.name, [], [], [], [], [], [], 0⟩ else ⟨m.kind, m.what, [], m.portal, [], [], [], [], [], 0⟩ := by
      have : saidF m = if m.what = 83 then ⟨m.kind, m.what, m.name, [], [], [], [], [], [], 0⟩ else ⟨m.kind, m.what, [], m.portal, [], [], [], [], [], 0⟩ := by unfold saidF; rw [if_neg (by omega), if_neg (by omega), if_pos (by omega)]
      rw [← this]; exact hs
    have hwt : m.what = 83 ∨ m.what = 80 := by
      simp [whatB, e] at hw; exact hw
    have hwb : [UInt8.ofNat m.what.toNat] = putL [] m.what 1 := by rcases hwt with h | h <;> rw [h] <;> decide
    have hb : bodyF m = putL [] m.what 1 ++ (He.encT (m.name ++ m.portal) ++ []) := by
      unfold bodyF; rw [if_neg (by omega), if_neg (by omega), if_pos (by omega), ← hwb]; simp [textsL]
    obtain ⟨a1, a2⟩ := num_put (n := m.what) (size := 1) (.inl rfl) (He.encT (m.name ++ m.portal) ++ []) (right_of_range (.inl rfl) (by omega) (by rw [one256]; omega))
    rw [onecast] at a1 a2
    rw [one256, Int.emod_eq_of_lt (by omega) (by omega)] at a1
    have h678 : m.kind = 67 ∨ m.kind = 68 := by omega
    rw [hb, readV_678 _ h678, readS_678 _ h678, a1, a2]
    rcases hwt with h83 | h80
    · rw [if_pos h83] at hs'
      have hp : m.portal = [] := by rw [hs']
      obtain ⟨a3, a4⟩ := He.text_enc [] c1
      have e5 : m.name ++ m.portal = m.name := by rw [hp, List.append_nil]
      rw [if_pos h83, e5, a3, a4]
      exact ⟨hs'.symm, rfl⟩
    · have hn83 : ¬ m.what = 83 := by omega
      rw [if_neg hn83] at hs'
      have hp : m.name = [] := by rw [hs']
      obtain ⟨a3, a4⟩ := He.text_enc [] c2
      have e5 : m.name ++ m.portal = m.portal := by rw [hp, List.nil_append]
      rw [if_neg hn83, e5, a3, a4]
      exact ⟨hs'.symm, rfl⟩
  · -- C, D
    have hs' : m = if m.what = 83 then ⟨m.kind, m.what, m.name, [], [], [], [], [], [], 0⟩ else ⟨m.kind, m.what, [], m.portal, [], [], [], [], [], 0⟩ := by
      have : saidF m = if m.what = 83 then ⟨m.kind, m.what, m.name, [], [], [], [], [], [], 0⟩ else ⟨m.kind, m.what, [], m.portal, [], [], [], [], [], 0⟩ := by unfold saidF; rw [if_neg (by omega), if_neg (by omega), if_pos (by omega)]
      rw [← this]; exact hs
    have hwt : m.what = 83 ∨ m.what = 80 := by
      simp [whatB, e] at hw; exact hw
    have hwb : [UInt8.ofNat m.what.toNat] = putL [] m.what 1 := by rcases hwt with h | h <;> rw [h] <;> decide
    have hb : bodyF m = putL [] m.what 1 ++ (He.encT (m.name ++ m.portal) ++ []) := by
      unfold bodyF; rw [if_neg (by omega), if_neg (by omega), if_pos (by omega), ← hwb]; simp [textsL]
    obtain ⟨a1, a2⟩ := num_put (n := m.what) (size := 1) (.inl rfl) (He.encT (m.name ++ m.portal) ++ []) (right_of_range (.inl rfl) (by omega) (by rw [one256]; omega))
    rw [onecast] at a1 a2
    rw [one256, Int.emod_eq_of_lt (by omega) (by omega)] at a1
    have h678 : m.kind = 67 ∨ m.kind = 68 := by omega
    rw [hb, readV_678 _ h678, readS_678 _ h678, a1, a2]
    rcases hwt with h83 | h80
    · rw [if_pos h83] at hs'
      have hp : m.portal = [] := by rw [hs']
      obtain ⟨a3, a4⟩ := He.text_enc [] c1
      have e5 : m.name ++ m.portal = m.name := by rw [hp, List.append_nil]
      rw [if_pos h83, e5, a3, a4]
      exact ⟨hs'.symm, rfl⟩
    · have hn83 : ¬ m.what = 83 := by omega
      rw [if_neg hn83] at hs'
      have hp : m.name = [] := by rw [hs']
      obtain ⟨a3, a4⟩ := He.text_enc [] c2
      have e5 : m.name ++ m.portal = m.portal := by rw [hp, List.nil_append]
      rw [if_neg hn83, e5, a3, a4]
      exact ⟨hs'.symm, rfl⟩
  · -- E
    have hs' : m = ⟨69, 0, [], m.portal, [], [], [], [], [], m.max⟩ := by
      have : saidF m = ⟨69, 0, [], m.portal, [], [], [], [], [], m.max⟩ := by unfold saidF; rw [if_neg (by omega), if_neg (by omega), if_neg (by omega), if_pos e]
      rw [← this]; exact hs
    have hb : bodyF m = He.encT m.portal ++ (putL [] m.max 4 ++ []) := by
      unfold bodyF; rw [if_neg (by omega), if_neg (by omega), if_neg (by omega), if_pos e, putL_eq]; simp [textsL]
    obtain ⟨a1, a2⟩ := He.text_enc (putL [] m.max 4 ++ []) c2
    have hm' := hm
    simp only [sgnB, Bool.and_eq_true, beq_iff_eq] at hm
    obtain ⟨a3, a4⟩ := num_put (size := 4) (.inr (.inr rfl)) [] hm.1
    rw [four] at a3 a4
    rw [e, hb, readV_69, readS_69, a1, a2, a3, a4]
    refine ⟨?_, rfl⟩
    rw [p256_4, signed4]
    have hr := (right4 _).1 hm.1
    rw [sgn4] at hm'
    simp [betB] at hm'
    have : (if 2147483648 ≤ m.max % 4294967296 ∧ m.max % 4294967296 < 4294967296 then m.max % 4294967296 - 4294967296 else m.max % 4294967296) = m.max := by
      split <;> omega
    rw [this]; exact hs'.symm
  · have hs' : m = ⟨m.kind, 0, [], [], [], [], [], [], [], 0⟩ := by
      have : saidF m = ⟨m.kind, 0, [], [], [], [], [], [], [], 0⟩ := by unfold saidF; rw [if_neg (by omega), if_neg (by omega), if_neg (by omega), if_neg (by omega), if_neg (by omega)]
      rw [← this]; exact hs
    have hb : bodyF m = [] := by
      unfold bodyF; rw [if_neg (by omega), if_neg (by omega), if_neg (by omega), if_neg (by omega), if_neg (by omega)]
    obtain ⟨a1, a2⟩ := readV_no (some []) (k := m.kind) (by omega)
    rw [hb, a1, a2]
    exact ⟨hs'.symm, rfl⟩
  · -- P
    have hs' : m = ⟨80, 0, m.name, [], m.text, m.oids, [], [], [], 0⟩ := by
      have : saidF m = ⟨80, 0, m.name, [], m.text, m.oids, [], [], [], 0⟩ := by unfold saidF; rw [if_pos e]
      rw [← this]; exact hs
    have hb : bodyF m = He.encT m.name ++ (He.encT m.text ++ (listL (numE 4) m.oids ++ [])) := by
      unfold bodyF; rw [if_pos e]; simp [textsL]
    obtain ⟨a1, a2⟩ := He.text_enc (He.encT m.text ++ (listL (numE 4) m.oids ++ [])) c1
    obtain ⟨a3, a4⟩ := He.text_enc (listL (numE 4) m.oids ++ []) c3
    obtain ⟨a5, a6⟩ := list_there (nums_there (size := 4) (.inr (.inr rfl))) m.oids [] (by omega) (all_uns rfl (.inr (.inr rfl)) u1)
    rw [four] at a5 a6
    rw [e, hb, readV_80, readS_80]
    simp only [numbersV, numbersS]
    rw [a1, a2, a3, a4, a5, a6]
    exact ⟨hs'.symm, rfl⟩
  · -- Q
    have hs' : m = ⟨81, 0, [], [], m.text, [], [], [], [], 0⟩ := by
      have : saidF m = ⟨81, 0, [], [], m.text, [], [], [], [], 0⟩ := by unfold saidF; rw [if_neg (by omega), if_neg (by omega), if_neg (by omega), if_neg (by omega), if_pos e]
      rw [← this]; exact hs
    have hb : bodyF m = He.encT m.text ++ [] := by
      unfold bodyF; rw [if_neg (by omega), if_neg (by omega), if_neg (by omega), if_neg (by omega), if_pos e]; simp [textsL]
    obtain ⟨a1, a2⟩ := He.text_enc [] c3
    rw [e, hb, readV_81, readS_81, a1, a2]
    exact ⟨hs'.symm, rfl⟩
  · have hs' : m = ⟨m.kind, 0, [], [], [], [], [], [], [], 0⟩ := by
      have : saidF m = ⟨m.kind, 0, [], [], [], [], [], [], [], 0⟩ := by unfold saidF; rw [if_neg (by omega), if_neg (by omega), if_neg (by omega), if_neg (by omega), if_neg (by omega)]
      rw [← this]; exact hs
    have hb : bodyF m = [] := by
      unfold bodyF; rw [if_neg (by omega), if_neg (by omega), if_neg (by omega), if_neg (by omega), if_neg (by omega)]
    obtain ⟨a1, a2⟩ := readV_no (some []) (k := m.kind) (by omega)
    rw [hb, a1, a2]
    exact ⟨hs'.symm, rfl⟩
  · have hs' : m = ⟨m.kind, 0, [], [], [], [], [], [], [], 0⟩ := by
      have : saidF m = ⟨m.kind, 0, [], [], [], [], [], [], [], 0⟩ := by unfold saidF; rw [if_neg (by omega), if_neg (by omega), if_neg (by omega), if_neg (by omega), if_neg (by omega)]
      rw [← this]; exact hs
    have hb : bodyF m = [] := by
      unfold bodyF; rw [if_neg (by omega), if_neg (by omega), if_neg (by omega), if_neg (by omega), if_neg (by omega)]
    obtain ⟨a1, a2⟩ := readV_no (some []) (k := m.kind) (by omega)
    rw [hb, a1, a2]
    exact ⟨hs'.symm, rfl⟩

/-! ### What is read has just these bytes -/
theorem mem_flat {α : Type} (e : α → List UInt8) {l : List α} {c : α} (h : c ∈ l) : (e c).length ≤ (l.flatMap e).length := by
  induction l with
  | nil => cases h
  | cons x l ih =>
    rw [List.flatMap_cons, List.length_append]
    rcases List.mem_cons.1 h with rfl | h
    · omega
    · have := ih h; omega
theorem cells_ok {l : List Cl} {N : Nat} (h : ∀ c ∈ l, CellOk c) (hl : (listL cellE l).length ≤ N) (hN : N ≤ 1048576) : l.all cellB = true := by
  refine List.all_eq_true.2 fun c hc => ?_
  have h1 := mem_flat cellE hc
  rw [listL_eq, List.length_append] at hl
  obtain ⟨n, b⟩ := c
  rcases h _ hc with ⟨h2, h3⟩ | ⟨h2, h3⟩
  · have h2' : n = true := h2
    have h3' : b = [] := h3
    subst h2' h3'
    rfl
  · have h2' : n = false := h2
    subst h2'
    rw [cellE_bytes, List.length_append] at h1
    have : b.length ≤ 1048576 := by omega
    simp [cellB, this]
theorem nums_ok {l : List Int} {size : Nat} (hz : Sz size) (h : ∀ n ∈ l, 0 ≤ n ∧ n < 256 ^ size) : l.all (unsB size) = true := by
  refine List.all_eq_true.2 fun n hn => ?_
  obtain ⟨h1, h2⟩ := h n hn
  have h3 : ¬ n < 0 := by omega
  simp [unsB, h3, right_of_range hz h1 h2]
theorem bodyF_80 {m : Fm} (h : m.kind = 80) : bodyF m = textsL [m.name, m.text] ++ listL (numE 4) m.oids := if_pos h
theorem bodyF_66 {m : Fm} (h : m.kind = 66) : bodyF m = textsL [m.portal, m.name] ++ (listL (numE 2) m.formats ++ (listL cellE m.params ++ listL (numE 2) m.results)) := by unfold bodyF; rw [if_neg (by omega), if_pos h]
theorem bodyF_678 {m : Fm} (h : m.kind = 67 ∨ m.kind = 68) : bodyF m = UInt8.ofNat m.what.toNat :: textsL [m.name ++ m.portal] := by unfold bodyF; rw [if_neg (by omega), if_neg (by omega), if_pos h]
theorem bodyF_69 {m : Fm} (h : m.kind = 69) : bodyF m = putL (textsL [m.portal]) m.max 4 := by unfold bodyF; rw [if_neg (by omega), if_neg (by omega), if_neg (by omega), if_pos h]
theorem bodyF_81 {m : Fm} (h : m.kind = 81) : bodyF m = textsL [m.text] := by unfold bodyF; rw [if_neg (by omega), if_neg (by omega), if_neg (by omega), if_neg (by omega), if_pos h]
theorem put_signed {n : Int} (h0 : 0 ≤ n) (h1 : n < 4294967296) : putL [] (signedI n 4) 4 = putL [] n 4 := by
  rw [signed4]
  split
  · rename_i h
    have r1 : rightB (n - 4294967296) (4 : Nat) = true := by rw [four, right4]; omega
    have r2 : rightB n (4 : Nat) = true := by rw [four, right4]; omega
    have e1 := putL_right r1
    have e2 := putL_right r2
    rw [four] at e1 e2
    rw [e1, e2]
    have b : ∀ k, k < 4 → putByte (n - 4294967296) k = putByte n k := fun k hk => by
      unfold putByte
      congr 2
      rcases (by omega : k = 0 ∨ k = 1 ∨ k = 2 ∨ k = 3) with rfl | rfl | rfl | rfl <;> omega
    simp [putTo, b]
  · rfl
theorem clean_nil : cleanB [] = true := rfl
theorem sgn_zero : sgnB 4 0 = true := by decide
/-- What was read to its end, and may be, has just these bytes. -/
theorem read_back {k : Int} (hk : knownI k = 1) {xs : List UInt8} (hx : xs.length ≤ 1048576) (h : readS k (some xs) = some []) (hw : whatB (readV k (some xs)) = true) : bodyF (readV k (some xs)) = xs ∧ checkF (readV k (some xs)) = 0 := by
  rcases known_kinds hk with rfl | rfl | rfl | rfl | rfl | rfl | rfl | rfl | rfl
  · -- B
    rw [readS_66] at h
    rw [readV_66] at hw ⊢
    obtain ⟨ws, e4⟩ := some_of (numbersS_none 2) h
    obtain ⟨zs, e3⟩ := some_of cellsS_none e4
    obtain ⟨ys, e2⟩ := some_of (numbersS_none 2) e3
    obtain ⟨vs, e1⟩ := some_of (f := textS) rfl e2
    rw [e1] at e2
    obtain ⟨b1, c1⟩ := He.text_back e1
    obtain ⟨b2, c2⟩ := He.text_back e2
    rw [e1, e2] at e3
    rw [e1, e2, e3] at e4
    rw [e1, e2, e3, e4] at h
    rw [e1, e2, e3, e4] at hw ⊢
    obtain ⟨b3, o3, l3⟩ := list_back (nums_back (size := 2) (.inr (.inl rfl))) ys zs e3
    obtain ⟨b4, o4, l4⟩ := list_back cells_back zs ws e4
    obtain ⟨b5, o5, l5⟩ := list_back (nums_back (size := 2) (.inr (.inl rfl))) ws [] h
    rw [two] at b3 o3 l3 b5 o5 l5
    have hxs : xs = He.encT (textL (some xs)) ++ (He.encT (textL (some vs)) ++ (listL (numE 2) (numbersV 2 (some ys)) ++ (listL cellE (cellsV (some zs)) ++ (listL (numE 2) (numbersV 2 (some ws)) ++ [])))) := by
      rw [← b5, ← b4, ← b3, ← b2, ← b1]
    have l3' : (numbersV 2 (some ys)).length < 65536 := l3
    have l4' : (cellsV (some zs)).length < 65536 := l4
    have l5' : (numbersV 2 (some ws)).length < 65536 := l5
    have hlen := congrArg List.length hxs
    simp only [List.length_append] at hlen
    constructor
    · rw [bodyF_66 rfl]
      conv => rhs; rw [hxs]
      simp [textsL]
    · refine check_of rfl rfl ?_ ?_ sgn_zero rfl
      · simp only [listsB, Bool.and_eq_true, decide_eq_true_eq]
        exact ⟨⟨by simp, by omega, by omega, by omega⟩, rfl, nums_ok (size := 2) (.inr (.inl rfl)) o3, nums_ok (size := 2) (.inr (.inl rfl)) o5, cells_ok o4 (Nat.le_refl _) (by omega)⟩
      · simp only [cleanF, Bool.and_eq_true]; exact ⟨c2, c1, clean_nil⟩
  · -- C, D
    have h678 : (67 : Int) = 67 ∨ (67 : Int) = 68 := by omega
    rw [readS_678 _ h678] at h
    rw [readV_678 _ h678] at hw ⊢
    obtain ⟨ys, e1⟩ := some_of (f := textS) rfl h
    rw [e1] at h hw ⊢
    obtain ⟨b1, r1, r2⟩ := num_back (size := 1) (.inl rfl) e1
    obtain ⟨b2, c2⟩ := He.text_back h
    rw [onecast] at b1 r1 r2
    by_cases h83 : numV (some xs) 1 = 83
    · rw [if_pos h83] at hw ⊢
      have hp : [UInt8.ofNat (numV (some xs) 1).toNat] = putL [] (numV (some xs) 1) 1 := by rw [h83]; decide
      have hxs : xs = putL [] (numV (some xs) 1) 1 ++ (He.encT (textL (some ys)) ++ []) := by rw [← b2, ← b1]
      constructor
      · rw [bodyF_678 h678]
        conv => rhs; rw [hxs, ← hp]
        simp [textsL]
      · refine check_of rfl hw rfl ?_ sgn_zero ?_
        · simp only [cleanF, Bool.and_eq_true]; exact ⟨c2, clean_nil, clean_nil⟩
        · unfold saidF; rw [if_neg (by simp), if_neg (by simp), if_pos h678, if_pos h83]
    · rw [if_neg h83] at hw ⊢
      have h80 : numV (some xs) 1 = 80 := by simp [whatB, h83] at hw; exact hw
      have hp : [UInt8.ofNat (numV (some xs) 1).toNat] = putL [] (numV (some xs) 1) 1 := by rw [h80]; decide
      have hxs : xs = putL [] (numV (some xs) 1) 1 ++ (He.encT (textL (some ys)) ++ []) := by rw [← b2, ← b1]
      constructor
      · rw [bodyF_678 h678]
        conv => rhs; rw [hxs, ← hp]
        simp [textsL]
      · refine check_of rfl hw rfl ?_ sgn_zero ?_
        · simp only [cleanF, Bool.and_eq_true]; exact ⟨clean_nil, c2, clean_nil⟩
        · unfold saidF; rw [if_neg (by simp), if_neg (by simp), if_pos h678, if_neg h83]
  · -- C, D
    have h678 : (68 : Int) = 67 ∨ (68 : Int) = 68 := by omega
    rw [readS_678 _ h678] at h
    rw [readV_678 _ h678] at hw ⊢
    obtain ⟨ys, e1⟩ := some_of (f := textS) rfl h
    rw [e1] at h hw ⊢
    obtain ⟨b1, r1, r2⟩ := num_back (size := 1) (.inl rfl) e1
    obtain ⟨b2, c2⟩ := He.text_back h
    rw [onecast] at b1 r1 r2
    by_cases h83 : numV (some xs) 1 = 83
    · rw [if_pos h83] at hw ⊢
      have hp : [UInt8.ofNat (numV (some xs) 1).toNat] = putL [] (numV (some xs) 1) 1 := by rw [h83]; decide
      have hxs : xs = putL [] (numV (some xs) 1) 1 ++ (He.encT (textL (some ys)) ++ []) := by rw [← b2, ← b1]
      constructor
      · rw [bodyF_678 h678]
        conv => rhs; rw [hxs, ← hp]
        simp [textsL]
      · refine check_of rfl hw rfl ?_ sgn_zero ?_
        · simp only [cleanF, Bool.and_eq_true]; exact ⟨c2, clean_nil, clean_nil⟩
        · unfold saidF; rw [if_neg (by simp), if_neg (by simp), if_pos h678, if_pos h83]
    · rw [if_neg h83] at hw ⊢
      have h80 : numV (some xs) 1 = 80 := by simp [whatB, h83] at hw; exact hw
      have hp : [UInt8.ofNat (numV (some xs) 1).toNat] = putL [] (numV (some xs) 1) 1 := by rw [h80]; decide
      have hxs : xs = putL [] (numV (some xs) 1) 1 ++ (He.encT (textL (some ys)) ++ []) := by rw [← b2, ← b1]
      constructor
      · rw [bodyF_678 h678]
        conv => rhs; rw [hxs, ← hp]
        simp [textsL]
      · refine check_of rfl hw rfl ?_ sgn_zero ?_
        · simp only [cleanF, Bool.and_eq_true]; exact ⟨clean_nil, c2, clean_nil⟩
        · unfold saidF; rw [if_neg (by simp), if_neg (by simp), if_pos h678, if_neg h83]
  · -- E
    rw [readS_69] at h
    rw [readV_69] at hw ⊢
    obtain ⟨ys, e1⟩ := some_of (f := (numS · 4)) rfl h
    rw [e1] at h hw ⊢
    obtain ⟨b1, c1⟩ := He.text_back e1
    obtain ⟨b2, r1, r2⟩ := num_back (size := 4) (.inr (.inr rfl)) h
    rw [four] at b2 r1 r2
    rw [p256_4] at r2
    have hs4 : putL [] (signedI (numV (some ys) 4) 4) 4 = putL [] (numV (some ys) 4) 4 := put_signed r1 r2
    have hxs : xs = He.encT (textL (some xs)) ++ (putL [] (numV (some ys) 4) 4 ++ []) := by rw [← b2, ← b1]
    constructor
    · rw [bodyF_69 rfl, putL_eq, hs4]
      conv => rhs; rw [hxs]
      simp [textsL]
    · refine check_of rfl rfl rfl ?_ ?_ rfl
      · simp only [cleanF, Bool.and_eq_true]; exact ⟨clean_nil, c1, clean_nil⟩
      · rw [sgn4, signed4]
        simp only [betB, Bool.and_eq_true, Bool.not_eq_true', decide_eq_false_iff_not]
        split <;> omega
  · obtain ⟨e1, e2⟩ := readV_no (some xs) (k := 72) (by omega)
    rw [e2] at h; injection h with h; subst h
    rw [e1]; exact ⟨rfl, rfl⟩
  · -- P
    rw [readS_80] at h
    rw [readV_80] at hw ⊢
    obtain ⟨ys, e2⟩ := some_of (numbersS_none 4) h
    obtain ⟨vs, e1⟩ := some_of (f := textS) rfl e2
    rw [e1] at e2
    obtain ⟨b1, c1⟩ := He.text_back e1
    obtain ⟨b2, c2⟩ := He.text_back e2
    rw [e1, e2] at h
    rw [e1, e2] at hw ⊢
    obtain ⟨b3, o3, l3⟩ := list_back (nums_back (size := 4) (.inr (.inr rfl))) ys [] h
    rw [four] at b3 o3 l3
    have l3' : (numbersV 4 (some ys)).length < 65536 := l3
    have hxs : xs = He.encT (textL (some xs)) ++ (He.encT (textL (some vs)) ++ (listL (numE 4) (numbersV 4 (some ys)) ++ [])) := by
      rw [← b3, ← b2, ← b1]
    constructor
    · rw [bodyF_80 rfl]
      conv => rhs; rw [hxs]
      simp [textsL]
    · refine check_of rfl rfl ?_ ?_ sgn_zero rfl
      · simp only [listsB, Bool.and_eq_true, decide_eq_true_eq]
        exact ⟨⟨by omega, by simp, by simp, by simp⟩, nums_ok (size := 4) (.inr (.inr rfl)) o3, rfl, rfl, rfl⟩
      · simp only [cleanF, Bool.and_eq_true]; exact ⟨c1, clean_nil, c2⟩
  · -- Q
    rw [readS_81] at h
    rw [readV_81] at hw ⊢
    obtain ⟨b1, c1⟩ := He.text_back h
    constructor
    · rw [bodyF_81 rfl]
      conv => rhs; rw [b1]
      simp [textsL]
    · refine check_of rfl rfl rfl ?_ sgn_zero rfl
      simp only [cleanF, Bool.and_eq_true]; exact ⟨clean_nil, clean_nil, c1⟩
  · obtain ⟨e1, e2⟩ := readV_no (some xs) (k := 83) (by omega)
    rw [e2] at h; injection h with h; subst h
    rw [e1]; exact ⟨rfl, rfl⟩
  · obtain ⟨e1, e2⟩ := readV_no (some xs) (k := 88) (by omega)
    rw [e2] at h; injection h with h; subst h
    rw [e1]; exact ⟨rfl, rfl⟩
end Go.Proofs.Ytdijlfgmpinidaa.Ax
/- Hello over values without memory: a first message there and back; Same; HelloBack. -/
namespace Go.Proofs.Ytdijlfgmpinidaa.Ax
open Go.RowKit Go By Nm Sc Dg
set_option linter.unusedSimpArgs false
set_option linter.unusedVariables false
set_option maxRecDepth 10000

theorem n4_there {n : Int} (r : List UInt8) (h0 : 0 ≤ n) (h1 : n < 4294967296) : numV (some (numE 4 n ++ r)) 4 = n ∧ numS (some (numE 4 n ++ r)) 4 = some r := by
  have := @num_put n 4 (.inr (.inr rfl)) r
  rw [four, p256_4, Int.emod_eq_of_lt h0 h1] at this
  exact this ((right4 n).2 (by omega))
theorem n4_back {xs r : List UInt8} (h : numS (some xs) 4 = some r) : xs = numE 4 (numV (some xs) 4) ++ r ∧ 0 ≤ numV (some xs) 4 ∧ numV (some xs) 4 < 4294967296 := by
  have := @num_back 4 (.inr (.inr rfl)) xs r
  rw [four, p256_4] at this
  exact this h
theorem pairs_count : ∀ l : List Pa, l.length ≤ (pairsE l).length
  | [] => by simp [pairsE]
  | p :: l => by
    have := pairs_count l
    unfold pairsE at *
    rw [List.flatMap_cons, List.length_append, List.length_cons, pairE_eq]
    simp only [List.length_append, List.length_cons, List.length_nil]
    omega
theorem n4_uns {n : Int} (h : unsB 4 n = true) : 0 ≤ n ∧ n < 4294967296 := by
  simp only [unsB, Bool.and_eq_true, Bool.not_eq_true', decide_eq_false_iff_not, right4] at h; omega
theorem n4_uns_of {n : Int} (h0 : 0 ≤ n) (h1 : n < 4294967296) : unsB 4 n = true := by
  simp only [unsB, Bool.and_eq_true, Bool.not_eq_true', decide_eq_false_iff_not, right4]; omega
theorem parse2_a {st : Sta} (hb : badB st = false) : parse2 196608 st = if doneB (pairsS st) = true then (⟨196608, 0, 0, pairsV st⟩, 0) else (noHm, 4) := by unfold parse2; rw [hb]; rfl
theorem parse2_b {st : Sta} (hb : badB st = false) : parse2 80877102 st = if doneB (numS (numS st 4) 4) = true then (⟨80877102, numV st 4, numV (numS st 4) 4, []⟩, 0) else (noHm, 4) := by unfold parse2; rw [hb]; rfl
theorem parse2_c {st : Sta} (hb : badB st = false) : parse2 80877103 st = if doneB st = true then (⟨80877103, 0, 0, []⟩, 0) else (noHm, 4) := by unfold parse2; rw [hb]; rfl
theorem bad_some (xs : List UInt8) : badB (some xs) = false := rfl
theorem parse_build {m : Hm} (h : mayH m = true) : parseH (bytesH m) = (m, 0) := by
  obtain ⟨c, p, q, l⟩ := m
  unfold mayH zeroH at h
  unfold parseH bytesH
  by_cases h1 : c = 196608
  · subst h1
    simp only [if_true, Bool.and_eq_true, beq_iff_eq, Bool.not_eq_true'] at h
    obtain ⟨⟨rfl, rfl⟩, h4⟩ := h
    rw [if_pos rfl]
    obtain ⟨a, b⟩ := n4_there (n := 196608) (pairsE l ++ [0]) (by omega) (by omega)
    have hc := pairs_count l
    have t := pairs_there l (He.lenS (some (pairsE l ++ (0 :: []))) + 1) [] (by simp only [He.lenS, List.length_append]; omega) (fun p hp => by simpa using List.any_eq_false.1 h4 p hp)
    simp only
    rw [a, b, parse2_a (bad_some _)]
    unfold pairsS pairsV
    rw [t]
    rfl
  · simp only [if_neg h1] at h
    by_cases h2 : c = 80877102
    · subst h2
      simp only [if_true, Bool.and_eq_true, decide_eq_true_eq] at h
      obtain ⟨h3, h4, h5⟩ := h
      obtain rfl := List.length_eq_zero_iff.1 h3
      obtain ⟨a, b⟩ := n4_there (n := 80877102) (numE 4 p ++ (numE 4 q ++ [])) (by omega) (by omega)
      obtain ⟨a2, b2⟩ := n4_there (n := p) (numE 4 q ++ []) (n4_uns h4).1 (n4_uns h4).2
      obtain ⟨a3, b3⟩ := n4_there (n := q) [] (n4_uns h5).1 (n4_uns h5).2
      simp only
      rw [if_neg (by decide), if_pos trivial, ← List.append_nil (numE 4 q), a, b, parse2_b (bad_some _), a2, b2, a3, b3]
      rfl
    · simp only [if_neg h2] at h
      by_cases h3 : c = 80877103
      · subst h3
        simp only [if_true, Bool.and_eq_true, decide_eq_true_eq, beq_iff_eq] at h
        obtain ⟨h4, rfl, rfl⟩ := h
        obtain rfl := List.length_eq_zero_iff.1 h4
        obtain ⟨a, b⟩ := n4_there (n := 80877103) [] (by omega) (by omega)
        simp only
        rw [if_neg (by decide), if_neg (by decide), ← List.append_nil (numE 4 80877103), a, b, parse2_c (bad_some _)]
        rfl
      · simp [h3] at h
end Go.Proofs.Ytdijlfgmpinidaa.Ax
/- Hello over values without memory: what is read builds to its bytes; Same; the statement of hello there and back. -/
namespace Go.Proofs.Ytdijlfgmpinidaa.Ax
open Go.RowKit Go By Nm Sc Dg
set_option linter.unusedSimpArgs false
set_option linter.unusedVariables false
set_option maxRecDepth 10000

theorem parse_no {xs : List UInt8} (h : (parseH xs).2 ≠ 0) : (parseH xs).1 = noHm := by
  unfold parseH parse2 at h ⊢
  repeat' split
  all_goals first
    | rfl
    | (exfalso; apply h; simp [*])
theorem build_parse {xs : List UInt8} (h : (parseH xs).2 = 0) : mayH (parseH xs).1 = true ∧ bytesH (parseH xs).1 = xs ∧ (parseH xs).1.params.length ≤ xs.length := by
  unfold parseH at h ⊢
  cases e : numS (some xs) 4 with
  | none => rw [e] at h; cases h
  | some r =>
    obtain ⟨hb, h0, h1⟩ := n4_back e
    rw [e] at h
    generalize numV (some xs) 4 = c at *
    by_cases c1 : c = 196608
    · subst c1
      rw [parse2_a (bad_some _)] at h ⊢
      split at h
      · rename_i hd
        rw [if_pos hd]
        have hs := done_nil hd
        obtain ⟨hr, hp⟩ := pairs_back (He.lenS (some r) + 1) r [] (pairsV (some r)) (by simp [He.lenS]) (by unfold pairsV; unfold pairsS at hs; rw [← hs])
        have hc := pairs_count (pairsV (some r))
        have hlen : xs.length = (numE 4 196608).length + r.length := by rw [hb, List.length_append]
        have hlen2 : r.length = (pairsE (pairsV (some r))).length + 1 := by
          have := congrArg List.length hr
          rwa [List.length_append, List.length_singleton] at this
        refine ⟨?_, ?_, ?_⟩
        · simp only [mayH, zeroH, if_pos, Bool.and_eq_true, Bool.not_eq_true']
          refine ⟨by decide, ?_⟩
          rw [List.any_eq_false]
          intro p hp2
          rw [hp p hp2]; simp
        · unfold bytesH
          rw [if_pos rfl]
          show numE 4 196608 ++ (pairsE (pairsV (some r)) ++ [0]) = xs
          rw [← hr, ← hb]
        · show (pairsV (some r)).length ≤ _
          omega
      · cases h
    by_cases c2 : c = 80877102
    · subst c2
      rw [parse2_b (bad_some _)] at h ⊢
      split at h
      · rename_i hd
        rw [if_pos hd]
        have hs := done_nil hd
        cases e2 : numS (some r) 4 with
        | none => rw [e2] at hs; cases hs
        | some r1 =>
          rw [e2] at hs
          obtain ⟨hb2, p0, p1⟩ := n4_back e2
          obtain ⟨hb3, q0, q1⟩ := n4_back hs
          refine ⟨?_, ?_, by simp⟩
          · have a1 := n4_uns_of p0 p1
            have a2 := n4_uns_of q0 q1
            unfold mayH
            rw [if_neg (by show ¬ ((80877102 : Int) = 196608); omega), if_pos rfl]
            show (decide (0 = 0) && (unsB 4 (numV (some r) 4) && unsB 4 (numV (some r1) 4))) = true
            rw [a1, a2]; rfl
          · unfold bytesH
            rw [if_neg (by show ¬ ((80877102 : Int) = 196608); omega), if_pos rfl]
            show numE 4 80877102 ++ (numE 4 (numV (some r) 4) ++ numE 4 (numV (some r1) 4)) = xs
            rw [List.append_nil] at hb3
            rw [← hb3, ← hb2, ← hb]
      · cases h
    by_cases c3 : c = 80877103
    · subst c3
      rw [parse2_c (bad_some _)] at h ⊢
      split at h
      · rename_i hd
        rw [if_pos hd]
        have hs := done_nil hd
        injection hs with hs
        subst hs
        refine ⟨rfl, ?_, by simp⟩
        unfold bytesH
        rw [if_neg (by show ¬ ((80877103 : Int) = 196608); omega), if_neg (by show ¬ ((80877103 : Int) = 80877102); omega)]
        rw [List.append_nil] at hb
        exact hb.symm
      · cases h
    · exfalso
      unfold parse2 at h
      rw [bad_some, if_neg c1, if_neg c2, if_neg c3] at h
      cases h
def samePa (a b : Pa) : Bool := a.name == b.name && (a.value == b.value && true)
theorem samePa_eq (a b : Pa) : samePa a b = (a == b) := by
  obtain ⟨a1, a2⟩ := a
  obtain ⟨b1, b2⟩ := b
  rw [Bool.eq_iff_iff]; simp [samePa]
theorem eqPa (x y : Pa) : eqCs [2, 2] (paC x) (paC y) = some (samePa x y) := by simp [paC, samePa]
def sameH (a b : Hm) : Bool := a.code == b.code && (a.process == b.process && (a.secret == b.secret && a.params == b.params))
theorem sameH_refl (a : Hm) : sameH a a = true := by simp [sameH]
theorem heq_len {α : Type} [BEq α] [LawfulBEq α] {xs ys : List α} (h : xs.length ≠ ys.length) : (xs == ys) = false := by
  rw [← eqL_beq]; exact eqL_len h
theorem heq_all {α : Type} [BEq α] [LawfulBEq α] {xs ys : List α} (hl : xs.length = ys.length) (h : ∀ i (h1 : i < xs.length) (h2 : i < ys.length), (xs[i] == ys[i]) = true) : (xs == ys) = true := by
  rw [← eqL_beq]; exact (eqL_iff _ xs ys).2 ⟨hl, h⟩
theorem heq_one {α : Type} [BEq α] [LawfulBEq α] {xs ys : List α} {i : Nat} (h1 : i < xs.length) (h2 : i < ys.length) (h : (xs[i] == ys[i]) = false) : (xs == ys) = false := by
  rw [← eqL_beq]; exact eqL_no (i := i) h1 h2 h
theorem heq_upto {α : Type} [BEq α] {xs ys : List α} {j : Nat} (hp : ∀ i (h1 : i < xs.length) (h2 : i < ys.length), i < j → (xs[i] == ys[i]) = true) (hx : j < xs.length) (hy : j < ys.length) (h : (xs[j] == ys[j]) = true) : ∀ i (h1 : i < xs.length) (h2 : i < ys.length), i < j + 1 → (xs[i] == ys[i]) = true := fun i h1 h2 h3 => by
  rcases Nat.lt_or_ge i j with h4 | h4
  · exact hp i h1 h2 h4
  · have : i = j := by omega
    subst this; exact h
theorem hsame_c (a b : Hm) (hl : a.params.length ≤ 140737488355328) (h : List (List AV)) : Contract Try.prog 7 [.agg (hmC a), .agg (hmC b)] h (.v (.bool (sameH a b))) h [] := by
  refine contract_of k7 mixed (by simp [c7]) fun hh hargs => ?_
  unfold sameH
  cases p0 : a.code == b.code with
  | false => simp [c7, hh, bne, p0]
  | true =>
  cases p1 : a.process == b.process with
  | false => simp [c7, hh, bne, p0, p1]
  | true =>
  cases p2 : a.secret == b.secret with
  | false => simp [c7, hh, bne, p0, p1, p2]
  | true =>
  by_cases l1 : a.params.length = b.params.length
  · simp [c7, bne, p0, p1, p2, l1]
    refine xloop_ok (D := Nat) (fun j => ⟨[(2, .box h.length 0), (3, .box (h.length + 1) 0), (5, .v (.int .i64 j))], [], h ++ [hmC a, hmC b], []⟩) (fun j => j ≤ a.params.length ∧ ∀ i (h1 : i < a.params.length) (h2 : i < b.params.length), i < j → (a.params[i] == b.params[i]) = true) (fun j => a.params.length - j) 0 ⟨by omega, fun i h1 h2 h3 => by omega⟩ ?_ ?_
    · simp [Leq, hh]
    · rintro j ⟨hj, hp⟩
      by_cases hlt : j < b.params.length
      · have hlt' : j < a.params.length := by omega
        have hw : IntKind.i64.wrap ((j : Int) + 1) = (j : Int) + 1 := wrap64 (by omega) (by omega)
        have no : (a.params[j] == b.params[j]) = false → (a.params == b.params) = false := fun e => heq_one hlt' hlt e
        have yes := heq_upto hp hlt' hlt
        simp [hlt, hlt', eqPa]
        rw [← samePa_eq] at no yes
        refine xwp_cond_of (!(samePa a.params[j] b.params[j])) (by simp) (fun ht => ?_) (fun hf' => ?_)
        · simp at ht
          simp [hh, no ht]
        · simp at hf'
          simp [hw]
          refine ⟨j + 1, ⟨by omega, fun i h1 h2 h3 => by simpa using yes hf' i h1 h2 h3⟩, by omega, ?_⟩
          simp [Leq, hh]
      · have ec : (a.params == b.params) = true := heq_all l1 fun i h1 h2 => hp i h1 h2 (by omega)
        have hlt' : ¬ j < a.params.length := by omega
        simp [hlt, hlt', hh, ec]
  · have hne : ((a.params.length : Int) == b.params.length) = false := by simp; omega
    have hx := heq_len l1
    simp [c7, bne, p0, p1, p2, hne, hh, hx]
theorem buildH_ok {m : Hm} (h : mayH m = true) : buildH m = (bytesH m, 0) := if_pos h
theorem buildH_no {m : Hm} (h : ¬ mayH m = true) : buildH m = ([], 1) := if_neg h
end Go.Proofs.Ytdijlfgmpinidaa.Ax
/- Hello over values without memory: the document's Parse; HelloParses. -/
namespace Go.Proofs.Ytdijlfgmpinidaa.Ax
open Go.RowKit Go By Nm Sc Dg
set_option linter.unusedSimpArgs false
set_option linter.unusedVariables false
set_option maxRecDepth 10000

/-- The document's pairs: what was taken, whether all is well, the scan behind it. -/
def rparR : Nat → Rs → List Pa → List Pa × Bool × Rs
  | 0, r, _ => ([], false, r)
  | k + 1, r, acc => if r.2 = true then ([], false, r) else if (rstep textS r).2 = true then ([], false, rstep textS r) else if He.textL (rabs r) = [] then (acc, doneB (rabs (rstep textS r)), rstep textS r) else rparR k (rstep textS (rstep textS r)) (acc ++ [⟨He.textL (rabs r), He.textL (rabs (rstep textS r))⟩])
theorem rabs_no {r : Rs} (h : r.2 = true) : rabs r = none := by obtain ⟨b, no⟩ := r; cases h; rfl
theorem rabs_yes {r : Rs} (h : ¬ r.2 = true) : rabs r = some r.1 := by obtain ⟨b, no⟩ := r; cases no with | true => exact absurd rfl h | false => rfl
theorem rpar_is : ∀ (k : Nat) (r : Rs) (acc : List Pa), He.lenS (rabs r) < k → (rparR k r acc).2.1 = doneB (pairR k (rabs r)).2 ∧ ((rparR k r acc).2.1 = true → (rparR k r acc).1 = acc ++ (pairR k (rabs r)).1)
  | 0, r, acc, h => by omega
  | k + 1, r, acc, h => by
    by_cases h0 : r.2 = true
    · rw [rparR, if_pos h0, rabs_no h0, pairR_none]
      exact ⟨rfl, by simp⟩
    · rw [rparR, if_neg h0, pairR]
      by_cases h1 : (rstep textS r).2 = true
      · have e := rabs_step textS r
        rw [rabs_no h1] at e
        rw [if_pos h1, ← e]
        have e2 : textS (none : Sta) = none := rfl
        rw [e2, pairR_none]
        split
        · exact ⟨rfl, by simp⟩
        · exact ⟨rfl, by simp⟩
      · rw [if_neg h1, ← rabs_step textS r, ← rabs_step textS (rstep textS r)]
        by_cases hz : He.textL (rabs r) = []
        · rw [if_pos hz, if_pos hz]
          exact ⟨rfl, by simp⟩
        · rw [if_neg hz, if_neg hz]
          have hl := He.textS_lt hz
          rw [← rabs_step textS r] at hl
          have hl2 := He.textS_len (rabs (rstep textS r))
          rw [← rabs_step textS (rstep textS r)] at hl2
          obtain ⟨a, b⟩ := rpar_is k (rstep textS (rstep textS r)) (acc ++ [⟨He.textL (rabs r), He.textL (rabs (rstep textS r))⟩]) (by omega)
          exact ⟨a, fun hb => by rw [b hb]; simp⟩
def rpar (r : Rs) : List Pa × Bool × Rs := rparR (He.lenS (rabs r) + 1) r []
theorem rpar_done (r : Rs) : (rpar r).2.1 = doneB (pairsS (rabs r)) := (rpar_is _ r [] (by omega)).1
theorem rpar_val {r : Rs} (h : doneB (pairsS (rabs r)) = true) : (rpar r).1 = pairsV (rabs r) := by
  have := (rpar_is _ r [] (Nat.lt_succ_self _)).2 (by rw [← h]; exact rpar_done r)
  rw [List.nil_append] at this
  exact this
structure Pd where
  l : List Pa
  s : Rs
  k : Nat
theorem hrparams_c (i : Nat) (h : List (List AV)) (r : Rs) (hi : h[i]? = some (rsC r)) (hl : He.lenS (rabs r) ≤ 1000000000000) : Contract Try.prog 18 [.box i 0] h (.tup [.sl 2 (enc paC (rpar r).1) none .no, .v (.bool (rpar r).2.1)]) (h.set i (rsC (rpar r).2.2)) [i] := by
  have hil := heap_lt hi
  refine contract_of k18 mixed (by simp [c18]) fun hh hargs => ?_
  simp [c18]
  refine xloop_ok (D := Pd) (fun d => ⟨[(0, .box i 0)], [(4, .sl 2 (enc paC d.l) none (.own (.slot 4)))], h.set i (rsC d.s), [i]⟩)
    (fun d => rpar r = rparR d.k d.s d.l ∧ He.lenS (rabs d.s) < d.k ∧ d.l.length + He.lenS (rabs d.s) ≤ He.lenS (rabs r)) (fun d => d.k) ⟨[], r, He.lenS (rabs r) + 1⟩ ⟨rfl, by simp, by simp⟩ ?_ ?_
  · simp [Leq, hh, hil, rsC_lt, set_same hi]
  · rintro ⟨acc, s, k⟩ ⟨e1, e3, e4⟩
    dsimp only at e1 e3 e4
    obtain ⟨k, rfl⟩ : ∃ n, k = n + 1 := ⟨k - 1, by omega⟩
    rw [rparR] at e1
    have hs0 : (h.set i (rsC s))[i]? = some (rsC s) := by simp [hil]
    by_cases h0 : s.2 = true
    · rw [if_pos h0] at e1
      rw [e1]
      obtain ⟨b, no⟩ := s
      dsimp only at h0
      subst h0
      simp [hil, hh, rsC_lt]
    · rw [if_neg h0] at e1
      have hb0 : s.2 = false := by simpa using h0
      have hs1 : rsC s = [.sl 1 (bytesE s.1) none .no, .v (.bool false)] := by unfold rsC; rw [hb0]
      simp [hil, hs1]
      rw [← hs1]
      refine xcall_self (by simp) (rtext_c i _ s hs0 (by omega)) ?_
      simp [hil]
      by_cases h1 : (rstep textS s).2 = true
      · rw [if_pos h1] at e1
        have h3 : rsC (rstep textS s) = [.sl 1 (bytesE (rstep textS s).1) none .no, .v (.bool true)] := by unfold rsC; rw [h1]
        rw [e1]
        simp [hil, hh, rsC_lt, h3]
      · rw [if_neg h1] at e1
        have hb1 : (rstep textS s).2 = false := by simpa using h1
        have h3 : rsC (rstep textS s) = [.sl 1 (bytesE (rstep textS s).1) none .no, .v (.bool false)] := by unfold rsC; rw [hb1]
        by_cases hz : He.textL (rabs s) = []
        · rw [if_pos hz] at e1
          simp [hil, hz, h3]
          rw [← h3]
          refine xcall_self (by simp) (rdone_c i _ (rstep textS s) (by simp [hil])) ?_
          rw [e1]
          simp [hil, hh, rsC_lt]
        · rw [if_neg hz] at e1
          have hless := He.textS_lt hz
          rw [← rabs_step textS s] at hless
          have hlt := He.textS_len (rabs (rstep textS s))
          rw [← rabs_step textS (rstep textS s)] at hlt
          have hb : (acc.length + 1) * 32 ≤ 140737488355328 := by omega
          have hb2 : acc.length + 1 ≤ 140737488355328 := by omega
          simp [hil, hz, h3]
          rw [← h3]
          refine xcall_self (by simp) (rtext_c i _ (rstep textS s) (by simp [hil]) (by omega)) ?_
          simp [hil, hb, hb2]
          refine ⟨⟨acc ++ [⟨He.textL (rabs s), He.textL (rabs (rstep textS s))⟩], rstep textS (rstep textS s), k⟩, ⟨e1, by dsimp only; omega, by simp; omega⟩, by dsimp only; omega, ?_⟩
          simp [Leq, hh, hil, rsC_lt, paC_mk]
theorem numS_short {xs : List UInt8} (h : xs.length < 4) : numS (some xs) 4 = none := by
  have : ¬ getErr xs.length 0 4 = 0 := fun e => by have := getErr_zero e; omega
  simp [numS, this]
theorem numS_long {xs : List UInt8} (h : ¬ xs.length < 4) : numS (some xs) 4 = some (xs.drop 4) := by
  have : getErr xs.length 0 4 = 0 := by
    unfold getErr; rw [if_neg (by decide), if_neg (by omega)]
  simp [numS, this]
theorem hrparse_c (xs : List UInt8) (hx : xs.length ≤ 1000000000000) (h : List (List AV)) : Contract Try.prog 6 [.sl 1 (bytesE xs) none .no] h (.tup [.agg (hmC (parseH xs).1), .v (.int .i64 (parseH xs).2)]) h [] := by
  refine contract_of k6 mixed (by simp [c6]) fun hh hargs => ?_
  by_cases hs : xs.length < 4
  · have e : parseH xs = (noHm, 4) := by unfold parseH; rw [numS_short hs]; rfl
    have hs2 : (xs.length : Int) < 4 := by omega
    rw [e]
    simp [c6, hs2, hh, noHm, hmC_mk]
  have hs2 : ¬ (xs.length : Int) < 4 := by omega
  simp [c6, hs2]
  refine xcall_self (by simp) (rnew_c xs (by omega) _) ?_
  simp
  refine xcall_self (by simp) (rnum_c (h.length + 1) _ (xs, false) (by simp) 4) ?_
  unfold parseH
  have hst : rabs (rstep (numS · 4) (xs, false)) = numS (some xs) 4 := rabs_step _ _
  have hl : He.lenS (numS (some xs) 4) ≤ 1000000000000 := Nat.le_trans (numS_len _ _) hx
  have hb : badB (numS (some xs) 4) = false := by rw [numS_long hs]; rfl
  simp
  generalize numV (some xs) 4 = c at *
  generalize numS (some xs) 4 = st at *
  generalize rstep (numS · 4) (xs, false) = r at *
  subst hst
  unfold parse2
  simp [hb]
  by_cases h1 : c = 196608
  · simp [h1]
    refine xcall_self (by simp) (hrparams_c (h.length + 1) _ r (by simp) hl) ?_
    rw [rpar_done]
    cases hd : doneB (pairsS (rabs r)) with
    | false => simp [hh, noHm, hmC_mk, hd]
    | true => rw [rpar_val hd]; simp [hh, hmC_mk, hd]
  by_cases h3 : c = 80877103
  · simp [h1, h3]
    refine xcall_self (by simp) (rdone_c (h.length + 1) _ r (by simp)) ?_
    cases hd : doneB (rabs r) with
    | false => simp [hh, noHm, hmC_mk, hd]
    | true => simp [hh, hmC_mk, hd]
  by_cases h2 : c = 80877102
  · simp [h1, h2]
    refine xcall_self (by simp) (rnum_c (h.length + 1) _ r (by simp) 4) ?_
    simp
    refine xcall_self (by simp) (rnum_c (h.length + 1) _ (rstep (numS · 4) r) (by simp) 4) ?_
    simp
    refine xcall_self (by simp) (rdone_c (h.length + 1) _ (rstep (numS · 4) (rstep (numS · 4) r)) (by simp)) ?_
    simp only [rabs_step]
    cases hd : doneB (numS (numS (rabs r) 4) 4) with
    | false => simp [hh, noHm, hmC_mk, hd]
    | true => simp [hh, hmC_mk, hd]
  · simp [h1, h2, h3, hh, noHm, hmC_mk]
theorem pairR_few : ∀ (k : Nat) (st : Sta), (pairR k st).1.length ≤ He.lenS st
  | 0, st => Nat.zero_le _
  | k + 1, st => by
    rw [pairR]
    by_cases hz : He.textL st = []
    · rw [if_pos hz]; exact Nat.zero_le _
    · rw [if_neg hz]
      have h1 := He.textS_lt hz
      have h2 := He.textS_len (textS st)
      have h3 := pairR_few k (textS (textS st))
      simp only [List.length_cons]
      omega
theorem params_few (xs : List UInt8) (h : xs.length ≤ 2000) : (parseH xs).1.params.length ≤ 140737488355328 := by
  have h1 : He.lenS (numS (some xs) 4) ≤ xs.length := numS_len _ _
  have h2 : (pairsV (numS (some xs) 4)).length ≤ He.lenS (numS (some xs) 4) := pairR_few _ _
  unfold parseH
  generalize numV (some xs) 4 = c at *
  generalize numS (some xs) 4 = st at *
  unfold parse2
  repeat' split
  all_goals first | exact Nat.zero_le _ | (show (pairsV st).length ≤ _; omega)
theorem hparses_c (xs : List UInt8) : Contract Try.prog 3 [.sl 1 (bytesE xs) none .no] [] (.v (.bool true)) [] [] := by
  refine contract_of k3 mixed (by simp [c3]) fun hh hargs => ?_
  by_cases hx : (2000 : Int) < xs.length
  · simp [c3, hx]
    refine xcall_self (by simp) (hawake_c _) ?_
    simp
  · have hx2 : ¬ 2000 < xs.length := by omega
    have hf := params_few xs (by omega)
    simp [c3, hx]
    refine xcall_self (by simp) (hparse_c xs (by omega) _) ?_
    simp
    refine xcall_self (by simp) (hrparse_c xs (by omega) _) ?_
    simp
    refine xcall_self (by simp) (hsame_c _ _ hf _) ?_
    rw [sameH_refl]
    simp
    refine xcall_self (by simp) (huser_c _ hf _) ?_
    simp
    refine xcall_self (by simp) (hruser_c _ hf _) ?_
    simp
    refine xcall_self (by simp) (hawake_c _) ?_
    simp
end Go.Proofs.Ytdijlfgmpinidaa.Ax
namespace Go.Proofs.Ytdijlfgmpinidaa.helloParses
open Go.ChangeShapes Go.WideShapes Go.ChangeAt Go.RowKit
open Go.ChangeMaps (open_string shut_string)
set_option linter.unusedVariables false

theorem own : ownKnob Try.prog.godebug = none := by kernel_rfl
theorem laidOut : laidOutB Try.prog = true := by kernel_rfl

set_option maxRecDepth 100000 in
theorem lifted (os : Os) (started : os.Started) (H : Type) (enc : TypeId × Value → H) :
    ReturnsInHanded {} Try.checked os 3 .any (Rows.helloParsesSpec.pre6 enc Try.prog Try.f3 Rows.helloParsesRow.domain false) (Rows.helloParsesSpec.post enc Try.prog Try.f3 false true false false) := by
  refine returnsInHanded_of_change (C := Try.checked) own started (by kernel_rfl) Try.func3
    (ChangeSpec.witness6 (enc := enc) (C := Try.checked) false ⟨#[], #[.slice none 0 0], []⟩ 8 (by kernel_rfl) (by kernel_rfl) (by kernel_rfl) (by kernel_rfl)) ?_
  intro W base args ds gs before hval0 hW hcnd _
  have hval : ∀ (j : Nat) t v, Try.f3.params[j]? = some t → args[j]? = some v → Value.okWide Try.prog W .any base t v := hval0
  have hW' := hW
  obtain ⟨p, q, hA0, hV, rfl, hfz, hnd⟩ := hW
  have hA : DataW.TrodAll enc Try.prog W 0 (fun _ => true) true Try.f3.params.toList args.toList ds p := hA0
  rw [Try.params3] at hA hval
  obtain ⟨v0, vs0, d0, ds0, p0, q0, hargs, rfl, rfl, h0, r0⟩ := trodAll_cons hA
  obtain ⟨rfl, rfl, rfl⟩ := trodAll_nil r0
  obtain rfl : args = #[v0] := by cases args; simp_all
  obtain ⟨rfl, rfl⟩ := trodVars_none hV
  have k0 := h0
  have lt0 : ∀ x ∈ p0, x.block < W.heap.size := by obtain ⟨m, hm⟩ := k0; exact DataW.trod_lt m _ _ _ hm
  obtain ⟨a0, ok0, s0⟩ := Ax.arg_slice Try.underlying22 Ax.sh_bytes (hval 0 22 v0 rfl rfl) h0
  clear hA0 hval0
  refine (Ax.law_walk (w := W) (Ax.dom_any W) (Ax.hparses_c a0) (by simp) (.cons s0 .nil)).mono fun e W' ⟨he, bel⟩ => ?_
  subst he
  exact ⟨_, rfl, _, _, _, [], _, [], hW', trodAll_mk1 (shut_bool Try.underlying4 _), (trodAll_cons_mk (Below.trod laidOut (by kernel_rfl) (of_decide_eq_true (by kernel_rfl)) k0 bel lt0) trodAll_mk0), rfl, bel.frame _, fun h => by cases h⟩

theorem over : Rows.helloParsesRow.holds Try.pinned (OpenSpec.ofChange Rows.helloParsesSpec) :=
  OpenClaim.holds_of_wide 3 Try.f3 rfl rfl rfl rfl rfl rfl rfl ⟨rfl, rfl, rfl, rfl, rfl⟩ rfl rfl rfl rfl rfl (by kernel_rfl) Try.func3 (by kernel_rfl)
    (of_decide_eq_true (by kernel_rfl)) (by unfold Func.isWrapper; first | (rw [if_pos (by decide +kernel)]; kernel_rfl) | (rw [if_neg (by decide +kernel)]; exact ⟨rfl, rfl⟩))
    (fun os started H enc _ => lifted os started H enc)

theorem proved : Rows.HelloParsesSaid := over
#print axioms proved
end Go.Proofs.Ytdijlfgmpinidaa.helloParses
