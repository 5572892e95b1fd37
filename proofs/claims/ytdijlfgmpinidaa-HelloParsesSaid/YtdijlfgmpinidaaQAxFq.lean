/- The document's messages of front as bytes and out of bytes, over values without memory. -/
import Derived.Test.YtdijlfgmpinidaaQAxWo
import Derived.Test.YtdijlfgmpinidaaQAxSc
import Derived.Test.YtdijlfgmpinidaaQAxFp
/- The contracts of what package wire reads, and of what the document reads, over values without memory. -/
namespace Go.Proofs.Ytdijlfgmpinidaa.Ax
open Go.RowKit Go By Nm Sc Dg
set_option linter.unusedSimpArgs false
set_option linter.unusedVariables false
set_option maxRecDepth 10000

/-- What is read again and again: v is read where a scan stands, and leads to s. -/
def readR {α : Type} (v : Sta → α) (s : Sta → Sta) : Nat → Sta → List α × Sta
  | 0, st => ([], st)
  | k + 1, st => (v st :: (readR v s k (s st)).1, (readR v s k (s st)).2)
section
variable {α : Type} (v : Sta → α) (s : Sta → Sta)
theorem readR_next : ∀ (k : Nat) (st : Sta), readR v s (k + 1) st = ((readR v s k st).1 ++ [v (readR v s k st).2], s (readR v s k st).2)
  | 0, st => rfl
  | k + 1, st => by
    have ih := readR_next k (s st)
    rw [readR, ih]
    simp [readR]
@[simp] theorem readR_len : ∀ (k : Nat) (st : Sta), (readR v s k st).1.length = k
  | 0, _ => rfl
  | k + 1, st => by simp [readR, readR_len k]
theorem readR_none (hs : s none = none) : ∀ (k : Nat), (readR v s k none).2 = none
  | 0 => rfl
  | k + 1 => by simp [readR, hs, readR_none hs k]
theorem readR_bad (hs : s none = none) {k n : Nat} (hk : k ≤ n) {st : Sta} (h : (readR v s k st).2 = none) : (readR v s n st).2 = none := by
  induction n with
  | zero => have : k = 0 := by omega
            subst this; exact h
  | succ n ih =>
    by_cases e : k = n + 1
    · subst e; exact h
    · rw [readR_next, ih (by omega)]; exact hs
theorem readR_lenS (hs : ∀ st, He.lenS (s st) ≤ He.lenS st) : ∀ (k : Nat) (st : Sta), He.lenS (readR v s k st).2 ≤ He.lenS st
  | 0, st => Nat.le_refl _
  | k + 1, st => by
    have := readR_lenS hs k (s st)
    have := hs st
    simp only [readR]; omega
end
/-- A list that is read: how many, and each; none, if anything could not be had. -/
def listV {α : Type} (v : Sta → α) (s : Sta → Sta) (st : Sta) : List α :=
  if (readR v s (numV st 2).toNat (numS st 2)).2 = none then [] else (readR v s (numV st 2).toNat (numS st 2)).1
def listS {α : Type} (v : Sta → α) (s : Sta → Sta) (st : Sta) : Sta := (readR v s (numV st 2).toNat (numS st 2)).2
theorem num2_range (st : Sta) : 0 ≤ numV st 2 ∧ numV st 2 < 65536 := by
  unfold numV
  split
  · split
    · exact ⟨(getI_range _ 0 2 (by omega)).1, by have := (getI_range (by assumption) 0 2 (by omega)).2; simpa using this⟩
    · omega
  · omega

/-- A cell that is read. -/
def cellV (st : Sta) : Cl := if numV st 4 = 4294967295 then (true, []) else (false, takeL (numS st 4) (numV st 4))
def cellS (st : Sta) : Sta := if numV st 4 = 4294967295 then numS st 4 else takeS (numS st 4) (numV st 4)
theorem cellS_none : cellS none = none := by simp [cellS, numS, numV, takeS]
/-! ### The document's -/
/-- What is read as long as all could be had. -/
def readU {α : Type} (v : Sta → α) (s : Sta → Sta) : Nat → Sta → List α
  | 0, _ => []
  | k + 1, st => if st = none then [] else v st :: readU v s k (s st)
theorem readU_at {α : Type} (v : Sta → α) (s : Sta → Sta) : ∀ (n j : Nat) (st : Sta), j ≤ n → (∀ t, t < j → (readR v s t st).2 ≠ none) → (j = n ∨ (readR v s j st).2 = none) → readU v s n st = (readR v s j st).1
  | 0, j, st, h1, _, _ => by
    have : j = 0 := by omega
    subst this; rfl
  | n + 1, 0, st, _, _, h3 => by
    rcases h3 with h3 | h3
    · omega
    · have : st = none := h3
      rw [readU, if_pos this]; rfl
  | n + 1, j + 1, st, h1, h2, h3 => by
    have h4 : st ≠ none := h2 0 (by omega)
    have h5 : j = n ∨ (readR v s j (s st)).2 = none := h3.imp (by omega) id
    rw [readU, if_neg h4, readU_at v s n j (s st) (by omega) (fun t ht => h2 (t + 1) (by omega)) h5]
    rfl
theorem readU_len {α : Type} (v : Sta → α) (s : Sta → Sta) : ∀ (n : Nat) (st : Sta), (readU v s n st).length ≤ n
  | 0, _ => Nat.le_refl _
  | n + 1, st => by
    unfold readU; split
    · simp
    · have := readU_len v s n (s st); simp; omega
/-- A list that the document reads. -/
def listU {α : Type} (v : Sta → α) (s : Sta → Sta) (st : Sta) : List α := readU v s (numV st 2).toNat (numS st 2)
theorem listU_eq {α : Type} (v : Sta → α) (s : Sta → Sta) (hs : s none = none) (st : Sta) (h : listS v s st ≠ none) : listU v s st = listV v s st := by
  unfold listV listU
  unfold listS at h
  rw [if_neg h]
  exact readU_at v s _ _ _ (Nat.le_refl _) (fun t ht hh => h (readR_bad v s hs (by omega) hh)) (.inl rfl)
/-- The document's scan goes on so, again and again. -/
def rsN (q : Rs → Rs) : Nat → Rs → Rs
  | 0, r => r
  | k + 1, r => rsN q k (q r)
theorem rsN_next (q : Rs → Rs) : ∀ (k : Nat) (r : Rs), rsN q (k + 1) r = q (rsN q k r)
  | 0, _ => rfl
  | k + 1, r => by rw [rsN, rsN_next q k]; rfl
theorem rsN_abs {α : Type} (v : Sta → α) {s : Sta → Sta} {q : Rs → Rs} (hq : ∀ r, rabs (q r) = s (rabs r)) : ∀ (k : Nat) (r : Rs), rabs (rsN q k r) = (readR v s k (rabs r)).2
  | 0, _ => rfl
  | k + 1, r => by rw [rsN, rsN_abs v hq k, hq]; rfl
theorem rsN_bad {q : Rs → Rs} (hb : ∀ r, rabs r = none → q r = r) : ∀ (k : Nat) {r : Rs}, rabs r = none → rsN q k r = r
  | 0, _, _ => rfl
  | k + 1, r, h => by rw [rsN, hb r h, rsN_bad hb k h]
theorem rsN_add (q : Rs → Rs) : ∀ (k j : Nat) (r : Rs), rsN q (j + k) r = rsN q k (rsN q j r)
  | k, 0, r => by rw [Nat.zero_add]; rfl
  | k, j + 1, r => by rw [Nat.add_right_comm, rsN, rsN_add q k j]; rfl
def listRs (q : Rs → Rs) (r : Rs) : Rs := rsN q (numV (rabs r) 2).toNat (rstep (numS · 2) r)
theorem listRs_abs {α : Type} (v : Sta → α) {s : Sta → Sta} {q : Rs → Rs} (hq : ∀ r, rabs (q r) = s (rabs r)) (r : Rs) : rabs (listRs q r) = listS v s (rabs r) := by
  unfold listRs listS
  rw [rsN_abs v hq, rabs_step]
theorem listRs_bad {q : Rs → Rs} (hb : ∀ r, rabs r = none → q r = r) {r : Rs} (h : rabs r = none) : listRs q r = r := by
  unfold listRs
  rw [rstep_bad rfl h, rsN_bad hb _ h]

section
variable {α : Type} (v : Sta → α) (s : Sta → Sta) (q : Rs → Rs) (hq : ∀ r, rabs (q r) = s (rabs r)) (hb : ∀ r, rabs r = none → q r = r) (r : Rs) (n : Nat) (hn : numV (rabs r) 2 = n)
include hq hn
/-- Where the loop ends. -/
theorem list_end (hb : ∀ r, rabs r = none → q r = r) (j : Nat) (hj : j ≤ n) (h1 : ∀ t, t < j → rabs (rsN q t (rstep (numS · 2) r)) ≠ none) (h2 : j = n ∨ rabs (rsN q j (rstep (numS · 2) r)) = none) :
    listU v s (rabs r) = (readR v s j (numS (rabs r) 2)).1 ∧ listRs q r = rsN q j (rstep (numS · 2) r) := by
  constructor
  · unfold listU
    rw [hn, Int.toNat_natCast]
    refine readU_at v s n j _ hj (fun t ht => ?_) (h2.imp id fun h => ?_)
    · rw [← rabs_step (numS · 2), ← rsN_abs v hq]; exact h1 t ht
    · rw [← rabs_step (numS · 2), ← rsN_abs v hq]; exact h
  · unfold listRs
    rw [hn, Int.toNat_natCast]
    rcases h2 with rfl | h2
    · rfl
    · obtain ⟨k, rfl⟩ : ∃ k, n = j + k := ⟨n - j, by omega⟩
      rw [rsN_add, rsN_bad hb _ h2]
end
theorem rabs_none {r : Rs} (h : rabs r = none) : r.2 = true := by
  obtain ⟨b, no⟩ := r
  cases no with
  | true => rfl
  | false => cases h
theorem rabs_some {r : Rs} (h : rabs r ≠ none) : r.2 = false := by
  obtain ⟨b, no⟩ := r
  cases no with
  | true => exact absurd rfl h
  | false => rfl
theorem rsC_eq (r : Rs) : rsC r = [.sl 1 (bytesE r.1) none .no, .v (.bool r.2)] := rfl

theorem numS_len (st : Sta) (n : Int) : He.lenS (numS st n) ≤ He.lenS st := by
  unfold numS; split
  · split
    · simp [He.lenS]
    · simp [He.lenS]
  · exact Nat.le_refl _
theorem takeS_len (st : Sta) (n : Int) : He.lenS (takeS st n) ≤ He.lenS st := by
  unfold takeS; split
  · split
    · simp [He.lenS]
    · simp [He.lenS]
  · exact Nat.le_refl _
theorem cellS_len (st : Sta) : He.lenS (cellS st) ≤ He.lenS st := by
  unfold cellS; split
  · exact numS_len _ _
  · exact Nat.le_trans (takeS_len _ _) (numS_len _ _)
/-- The document's scan behind a cell. -/
def rcellQ (r : Rs) : Rs := if numV (rabs r) 4 = 4294967295 then rstep (numS · 4) r else rstep (takeS · (numV (rabs r) 4)) (rstep (numS · 4) r)
theorem rcell_abs (r : Rs) : rabs (rcellQ r) = cellS (rabs r) := by
  unfold rcellQ cellS
  split
  · rw [rabs_step]
  · rw [rabs_step, rabs_step]
theorem rcell_bad {r : Rs} (h : rabs r = none) : rcellQ r = r := by
  unfold rcellQ
  split
  · exact rstep_bad rfl h
  · rw [rstep_bad (f := (numS · 4)) rfl h, rstep_bad rfl h]
end Go.Proofs.Ytdijlfgmpinidaa.Ax
/- Front's messages as bytes, over values without memory: both sides. -/
namespace Go.Proofs.Ytdijlfgmpinidaa.Ax
open Go.RowKit Go By Nm Sc Dg
set_option linter.unusedSimpArgs false
set_option linter.unusedVariables false
set_option maxRecDepth 10000

/-! ### slices.Concat -/
def bytC (b : List UInt8) : List AV := [.sl 1 (bytesE b) none .no]
@[simp] theorem ltLL_bytC (n : Nat) (l : List (List UInt8)) : ltLL n (enc bytC l) := ltLL_enc bytC n (fun _ => by simp [bytC]) l
/-- Lists of bytes, one behind the other. -/
def catL (l : List (List UInt8)) : List UInt8 := l.flatMap id
theorem catL_step (l : List (List UInt8)) (a j : Nat) (hj : j < l.length) (N : Nat) (hN : a + (catL l).length ≤ N) : catL (l.take (j + 1)) = catL (l.take j) ++ l[j] ∧ a + ((catL (l.take j)).length + l[j].length) ≤ N := flat_step id l a j hj N hN
@[simp] theorem catL_nil : catL [] = [] := of_eq_true (eq_self _)
/-! ### A body -/
def bodyF (m : Fm) : List UInt8 :=
  if m.kind = 80 then textsL [m.name, m.text] ++ listL (numE 4) m.oids
  else if m.kind = 66 then textsL [m.portal, m.name] ++ (listL (numE 2) m.formats ++ (listL cellE m.params ++ listL (numE 2) m.results))
  else if m.kind = 67 ∨ m.kind = 68 then UInt8.ofNat m.what.toNat :: textsL [m.name ++ m.portal]
  else if m.kind = 69 then putL (textsL [m.portal]) m.max 4
  else if m.kind = 81 then textsL [m.text]
  else []
/-- What Encode answers. -/
def encF (m : Fm) : Ms × Int := if checkF m = 0 then (⟨m.kind, bodyF m⟩, 0) else (⟨0, []⟩, checkF m)
end Go.Proofs.Ytdijlfgmpinidaa.Ax
/- Front's messages out of bytes, over values without memory: both sides. -/
namespace Go.Proofs.Ytdijlfgmpinidaa.Ax
open Go.RowKit Go By Nm Sc Dg
set_option linter.unusedSimpArgs false
set_option linter.unusedVariables false
set_option maxRecDepth 10000

abbrev numbersV (size : Int) (st : Sta) : List Int := listV (numV · size) (numS · size) st
abbrev numbersS (size : Int) (st : Sta) : Sta := listS (numV · size) (numS · size) st
abbrev cellsV (st : Sta) : List Cl := listV cellV cellS st
abbrev cellsS (st : Sta) : Sta := listS cellV cellS st
open He (textL)
theorem listS_len {α : Type} (v : Sta → α) (s : Sta → Sta) (hs : ∀ st, He.lenS (s st) ≤ He.lenS st) (st : Sta) : He.lenS (listS v s st) ≤ He.lenS st := by
  unfold listS
  exact Nat.le_trans (readR_lenS v s hs _ _) (numS_len _ _)
/-- What a body says, and what is left of it. -/
def readV (kind : Int) (st : Sta) : Fm :=
  if kind = 80 then ⟨80, 0, textL st, [], textL (textS st), numbersV 4 (textS (textS st)), [], [], [], 0⟩
  else if kind = 66 then ⟨66, 0, textL (textS st), textL st, [], [], numbersV 2 (textS (textS st)), numbersV 2 (cellsS (numbersS 2 (textS (textS st)))), cellsV (numbersS 2 (textS (textS st))), 0⟩
  else if kind = 67 ∨ kind = 68 then (if numV st 1 = 83 then ⟨kind, numV st 1, textL (numS st 1), [], [], [], [], [], [], 0⟩ else ⟨kind, numV st 1, [], textL (numS st 1), [], [], [], [], [], 0⟩)
  else if kind = 69 then ⟨69, 0, [], textL st, [], [], [], [], [], signedI (numV (textS st) 4) 4⟩
  else if kind = 81 then ⟨81, 0, [], [], textL st, [], [], [], [], 0⟩
  else ⟨kind, 0, [], [], [], [], [], [], [], 0⟩
def readS (kind : Int) (st : Sta) : Sta :=
  if kind = 80 then numbersS 4 (textS (textS st))
  else if kind = 66 then numbersS 2 (cellsS (numbersS 2 (textS (textS st))))
  else if kind = 67 ∨ kind = 68 then textS (numS st 1)
  else if kind = 69 then numS (textS st) 4
  else if kind = 81 then textS st
  else st
theorem num1_range (st : Sta) : 0 ≤ numV st 1 ∧ numV st 1 < 256 := by
  unfold numV
  split
  · split
    · exact ⟨(getI_range _ 0 1 (by omega)).1, by have := (getI_range (by assumption) 0 1 (by omega)).2; simpa using this⟩
    · omega
  · omega
theorem wrap_u8 {n : Int} (h : 0 ≤ n ∧ n < 256) : IntKind.u8.wrap n = n := by
  simp only [IntKind.wrap]
  simp [IntKind.bits, IntKind.signed]
  omega
/-- What Decode answers. -/
def noFm : Fm := ⟨0, 0, [], [], [], [], [], [], [], 0⟩
def decF (m : Ms) : Fm × Int :=
  if knownI m.type = 0 then (noFm, 4) else if knownI m.type = 2 then (noFm, 9)
  else if doneB (readS m.type (some m.body)) && whatB (readV m.type (some m.body)) then (readV m.type (some m.body), 0) else (noFm, 4)
end Go.Proofs.Ytdijlfgmpinidaa.Ax
namespace Go.Proofs.Ytdijlfgmpinidaa.Ax
open Go.RowKit Go By Nm Sc Dg
set_option linter.unusedSimpArgs false
set_option linter.unusedVariables false
set_option maxRecDepth 10000
open He (textL)

theorem putL_eq (xs : List UInt8) (n size : Int) : putL xs n size = xs ++ putL [] n size := by
  unfold putL; split <;> simp
theorem null_eq : putL [] (-1) 4 = putL [] 4294967295 4 := by decide
/-- What the document's Encode answers. -/
def rencF (m : Fm) : Ms × Int := if rcheckF m = 0 then (⟨m.kind, bodyF m⟩, 0) else (⟨0, []⟩, rcheckF m)
theorem textsL_cons (a : List UInt8) (l : List (List UInt8)) : textsL (a :: l) = He.encT a ++ textsL l := rfl
theorem encT_len (a : List UInt8) : (He.encT a).length = a.length + 1 := by simp [He.encT]
abbrev rnumbersQ (size : Int) (r : Rs) : Rs := listRs (rstep (numS · size)) r
abbrev rcellsQ (r : Rs) : Rs := listRs rcellQ r
abbrev numbersU (size : Int) (st : Sta) : List Int := listU (numV · size) (numS · size) st
/-- What the document reads, and where its scan stands then. -/
def rreadV (kind : Int) (r : Rs) : Fm :=
  if kind = 80 then ⟨80, 0, textL (rabs r), [], textL (textS (rabs r)), numbersU 4 (textS (textS (rabs r))), [], [], [], 0⟩
  else if kind = 66 then ⟨66, 0, textL (textS (rabs r)), textL (rabs r), [], [], numbersU 2 (textS (textS (rabs r))), numbersU 2 (cellsS (numbersS 2 (textS (textS (rabs r))))), listU cellV cellS (numbersS 2 (textS (textS (rabs r)))), 0⟩
  else if kind = 67 ∨ kind = 68 then (if numV (rabs r) 1 = 83 then ⟨kind, numV (rabs r) 1, textL (numS (rabs r) 1), [], [], [], [], [], [], 0⟩ else ⟨kind, numV (rabs r) 1, [], textL (numS (rabs r) 1), [], [], [], [], [], 0⟩)
  else if kind = 69 then ⟨69, 0, [], textL (rabs r), [], [], [], [], [], signedI (numV (textS (rabs r)) 4) 4⟩
  else if kind = 81 then ⟨81, 0, [], [], textL (rabs r), [], [], [], [], 0⟩
  else ⟨kind, 0, [], [], [], [], [], [], [], 0⟩
def rreadQ (kind : Int) (r : Rs) : Rs :=
  if kind = 80 then rnumbersQ 4 (rstep textS (rstep textS r))
  else if kind = 66 then rnumbersQ 2 (rcellsQ (rnumbersQ 2 (rstep textS (rstep textS r))))
  else if kind = 67 ∨ kind = 68 then rstep textS (rstep (numS · 1) r)
  else if kind = 69 then rstep (numS · 4) (rstep textS r)
  else if kind = 81 then rstep textS r
  else r
theorem rnumbers_abs (size : Int) (r : Rs) : rabs (rnumbersQ size r) = numbersS size (rabs r) := listRs_abs (numV · size) (fun r => rabs_step _ r) r
theorem rcells_abs (r : Rs) : rabs (rcellsQ r) = cellsS (rabs r) := listRs_abs cellV rcell_abs r
theorem rread_abs (kind : Int) (r : Rs) : rabs (rreadQ kind r) = readS kind (rabs r) := by
  unfold rreadQ readS
  repeat' split
  all_goals simp only [rnumbers_abs, rcells_abs, rabs_step]
def rdecF (m : Ms) : Fm × Int :=
  if knownI m.type = 2 then (noFm, 9) else if knownI m.type = 0 then (noFm, 4)
  else if doneB (readS m.type (some m.body)) && rcheckF (rreadV m.type (m.body, false)) == 0 then (rreadV m.type (m.body, false), 0) else (noFm, 4)
end Go.Proofs.Ytdijlfgmpinidaa.Ax
