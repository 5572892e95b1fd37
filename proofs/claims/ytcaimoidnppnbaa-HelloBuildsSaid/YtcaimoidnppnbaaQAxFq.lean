/- The document's messages of front as bytes and out of bytes, over values without memory. -/
import Derived.Test.YtcaimoidnppnbaaQAxWo
import Derived.Test.YtcaimoidnppnbaaQAxSc
import Derived.Test.YtcaimoidnppnbaaQAxFp
/- The contracts of what package wire reads, and of what the document reads, over values without memory. -/
namespace Go.Proofs.Ytcaimoidnppnbaa.Ax
open Go.RowKit Go By Nm Sc Dg
set_option linter.unusedSimpArgs false
set_option linter.unusedVariables false
set_option maxRecDepth 10000

/-- What is read again and again: v is read where a scan stands, and leads to s. -/
def readR {α : Type} (v : Sta → α) (s : Sta → Sta) : Nat → Sta → List α × Sta
  | 0, st => ([], st)
  | k + 1, st => (v st :: (readR v s k (s st)).1, (readR v s k (s st)).2)
section
variable {α : Type} (v : Sta → α) (s : Sta → Sta)
theorem readR_next : ∀ (k : Nat) (st : Sta), readR v s (k + 1) st = ((readR v s k st).1 ++ [v (readR v s k st).2], s (readR v s k st).2)
  | 0, st => rfl
  | k + 1, st => by
    have ih := readR_next k (s st)
    rw [readR, ih]
    simp [readR]
@[simp] theorem readR_len : ∀ (k : Nat) (st : Sta), (readR v s k st).1.length = k
  | 0, _ => rfl
  | k + 1, st => by simp [readR, readR_len k]
theorem readR_none (hs : s none = none) : ∀ (k : Nat), (readR v s k none).2 = none
  | 0 => rfl
  | k + 1 => by simp [readR, hs, readR_none hs k]
theorem readR_bad (hs : s none = none) {k n : Nat} (hk : k ≤ n) {st : Sta} (h : (readR v s k st).2 = none) : (readR v s n st).2 = none := by
  induction n with
  | zero => have : k = 0 := by omega
            subst this; exact h
  | succ n ih =>
    by_cases e : k = n + 1
    · subst e; exact h
    · rw [readR_next, ih (by omega)]; exact hs
theorem readR_lenS (hs : ∀ st, He.lenS (s st) ≤ He.lenS st) : ∀ (k : Nat) (st : Sta), He.lenS (readR v s k st).2 ≤ He.lenS st
  | 0, st => Nat.le_refl _
  | k + 1, st => by
    have := readR_lenS hs k (s st)
    have := hs st
    simp only [readR]; omega
end
/-- A list that is read: how many, and each; none, if anything could not be had. -/
def listV {α : Type} (v : Sta → α) (s : Sta → Sta) (st : Sta) : List α :=
  if (readR v s (numV st 2).toNat (numS st 2)).2 = none then [] else (readR v s (numV st 2).toNat (numS st 2)).1
def listS {α : Type} (v : Sta → α) (s : Sta → Sta) (st : Sta) : Sta := (readR v s (numV st 2).toNat (numS st 2)).2
theorem num2_range (st : Sta) : 0 ≤ numV st 2 ∧ numV st 2 < 65536 := by
  unfold numV
  split
  · split
    · exact ⟨(getI_range _ 0 2 (by omega)).1, by have := (getI_range (by assumption) 0 2 (by omega)).2; simpa using this⟩
    · omega
  · omega

theorem wreadI_c (v : Sta → Int) (s : Sta → Sta) (hs : s none = none) (g : FuncId) (first cap : List AV) (i : Nat) (h : List (List AV)) (st : Sta) (hi : h[i]? = some (scC st)) (hf : ∀ c ∈ first, c.idOf = none) (hcap : ∀ c ∈ cap, c.idOf = none) (hlf : ltL h.length first) (hlc : ltL h.length cap)
    (hg : ∀ st' h', Contract Try.prog g (first ++ cap) (h.set i (scC st') ++ h') (.v (.int .i64 (v st'))) (h.set i (scC (s st')) ++ h') [i]) :
    Contract Try.prog 158 [.agg [.box i 0], .fn (.func g) first cap] h (.sl 1 (enc intC (listV v s st)) none .no) (h.set i (scC (listS v s st))) [i] := by
  refine contract_of k158 mixed (by simp [c158]) fun hh hargs => ?_
  simp at hargs
  have hil := heap_lt hi
  have hi1 : i < h.length + 1 := by omega
  obtain ⟨hn0, hn1⟩ := num2_range st
  obtain ⟨n, hn⟩ : ∃ n : Nat, numV st 2 = n := ⟨(numV st 2).toNat, by omega⟩
  have hle : leqH 0 (h.set i (scC (numS st 2))) (h.set i (scC (numS st 2))) := leqH_refl _ _
  simp [c158]
  refine xcall_self (by simp) (num_c i _ st (by simpa [List.getElem?_append_left hil] using hi) 2) ?_
  simp [app_set hil, hn]
  refine xloop_ok (D := Nat) (fun j => ⟨[(1, .fn (.func g) first cap), (2, .box h.length 0), (8, .v (.int .i64 n)), (9, .v (.int .i64 j))], [(5, .sl 1 (enc intC (readR v s j (numS st 2)).1) none (.own (.slot 5)))], h.set i (scC (readR v s j (numS st 2)).2) ++ [[.box i 0]], [i]⟩)
    (fun j => j ≤ n ∧ (j = 0 ∨ (readR v s j (numS st 2)).2 ≠ none)) (fun j => n - j) 0 (by simp) ?_ ?_
  · simp [Leq, hh, hil, hlf, hlc, readR, ltL_mono (Nat.le_add_right _ 1) hlf, ltL_mono (Nat.le_add_right _ 1) hlc, scC_lt, hi1]
  · rintro j ⟨hj, hj2⟩
    by_cases hlt : j < n
    · have hlt' : (j : Int) < n := by omega
      have hw : IntKind.i64.wrap ((j : Int) + 1) = (j : Int) + 1 := wrap64 (by omega) (by omega)
      have hx := readR_next v s j (numS st 2)
      have hq : ∀ y ∈ first ++ cap, y.idOf = none := fun y hy => (List.mem_append.1 hy).elim (hf y) (hcap y)
      have hb : (j + 1) * 8 ≤ 140737488355328 := by omega
      have hb2 : (j + 1) ≤ 140737488355328 := by omega
      have h5 : intC (v (readR v s j (numS st 2)).2) = [.v (.int .i64 (v (readR v s j (numS st 2)).2))] := rfl
      simp [hlt']
      refine ⟨by simpa [or_imp, forall_and] using ⟨hf, hcap⟩, xcall_self hq (hg _ _) ?_⟩
      simp [idsOf_none hq, hw, hb, hb2]
      refine xcall_self (by simp) (bad_c i _ (s (readR v s j (numS st 2)).2) (app_set_get hil _ _)) ?_
      have hx1 : (readR v s (j + 1) (numS st 2)).1 = (readR v s j (numS st 2)).1 ++ [v (readR v s j (numS st 2)).2] := by rw [hx]
      have hx2 : (readR v s (j + 1) (numS st 2)).2 = s (readR v s j (numS st 2)).2 := by rw [hx]
      cases he : s (readR v s j (numS st 2)).2 with
      | none =>
        have h6 := readR_bad v s hs (k := j + 1) (n := n) (by omega) (st := numS st 2) (by rw [hx2, he])
        simp [badB, hh, hil, listV, listS, hn, h6]
      | some xs =>
        simp [badB, hw]
        refine ⟨j + 1, ⟨by omega, by rw [hx2, he]; simp⟩, by omega, ?_⟩
        simp [Leq, hh, hil, hx1, hx2, he, h5, ltL_mono (Nat.le_add_right _ 1) hlf, ltL_mono (Nat.le_add_right _ 1) hlc, scC_lt, hi1]
    · have hlt' : ¬ (j : Int) < n := by omega
      have : j = n := by omega
      subst this
      have h6 : listV v s st = (readR v s j (numS st 2)).1 ∧ listS v s st = (readR v s j (numS st 2)).2 := by
        unfold listV listS
        rw [hn]
        simp only [Int.toNat_natCast]
        refine ⟨?_, trivial⟩
        rcases hj2 with rfl | h7
        · by_cases h8 : (readR v s 0 (numS st 2)).2 = none
          · rw [if_pos h8]; rfl
          · rw [if_neg h8]
        · rw [if_neg h7]
      simp [hh, hil, h6, scC]
theorem wreadC_c (v : Sta → Cl) (s : Sta → Sta) (hs : s none = none) (g : FuncId) (first cap : List AV) (i : Nat) (h : List (List AV)) (st : Sta) (hi : h[i]? = some (scC st)) (hf : ∀ c ∈ first, c.idOf = none) (hcap : ∀ c ∈ cap, c.idOf = none) (hlf : ltL h.length first) (hlc : ltL h.length cap)
    (hg : ∀ st' h', Contract Try.prog g (first ++ cap) (h.set i (scC st') ++ h') (.agg (cellC (v st'))) (h.set i (scC (s st')) ++ h') [i]) :
    Contract Try.prog 160 [.agg [.box i 0], .fn (.func g) first cap] h (.sl 2 (enc cellC (listV v s st)) none .no) (h.set i (scC (listS v s st))) [i] := by
  refine contract_of k160 mixed (by simp [c160]) fun hh hargs => ?_
  simp at hargs
  have hil := heap_lt hi
  have hi1 : i < h.length + 1 := by omega
  obtain ⟨hn0, hn1⟩ := num2_range st
  obtain ⟨n, hn⟩ : ∃ n : Nat, numV st 2 = n := ⟨(numV st 2).toNat, by omega⟩
  have hle : leqH 0 (h.set i (scC (numS st 2))) (h.set i (scC (numS st 2))) := leqH_refl _ _
  simp [c160]
  refine xcall_self (by simp) (num_c i _ st (by simpa [List.getElem?_append_left hil] using hi) 2) ?_
  simp [app_set hil, hn]
  refine xloop_ok (D := Nat) (fun j => ⟨[(1, .fn (.func g) first cap), (2, .box h.length 0), (8, .v (.int .i64 n)), (9, .v (.int .i64 j))], [(5, .sl 2 (enc cellC (readR v s j (numS st 2)).1) none (.own (.slot 5)))], h.set i (scC (readR v s j (numS st 2)).2) ++ [[.box i 0]], [i]⟩)
    (fun j => j ≤ n ∧ (j = 0 ∨ (readR v s j (numS st 2)).2 ≠ none)) (fun j => n - j) 0 (by simp) ?_ ?_
  · simp [Leq, hh, hil, hlf, hlc, readR, ltL_mono (Nat.le_add_right _ 1) hlf, ltL_mono (Nat.le_add_right _ 1) hlc, scC_lt, hi1]
  · rintro j ⟨hj, hj2⟩
    by_cases hlt : j < n
    · have hlt' : (j : Int) < n := by omega
      have hw : IntKind.i64.wrap ((j : Int) + 1) = (j : Int) + 1 := wrap64 (by omega) (by omega)
      have hx := readR_next v s j (numS st 2)
      have hq : ∀ y ∈ first ++ cap, y.idOf = none := fun y hy => (List.mem_append.1 hy).elim (hf y) (hcap y)
      have hb : (j + 1) * 32 ≤ 140737488355328 := by omega
      have hb2 : (j + 1) ≤ 140737488355328 := by omega
      simp [hlt']
      refine ⟨by simpa [or_imp, forall_and] using ⟨hf, hcap⟩, xcall_self hq (hg _ _) ?_⟩
      simp [idsOf_none hq, hw, hb, hb2]
      refine xcall_self (by simp) (bad_c i _ (s (readR v s j (numS st 2)).2) (app_set_get hil _ _)) ?_
      have hx1 : (readR v s (j + 1) (numS st 2)).1 = (readR v s j (numS st 2)).1 ++ [v (readR v s j (numS st 2)).2] := by rw [hx]
      have hx2 : (readR v s (j + 1) (numS st 2)).2 = s (readR v s j (numS st 2)).2 := by rw [hx]
      cases he : s (readR v s j (numS st 2)).2 with
      | none =>
        have h6 := readR_bad v s hs (k := j + 1) (n := n) (by omega) (st := numS st 2) (by rw [hx2, he])
        simp [badB, hh, hil, listV, listS, hn, h6]
      | some xs =>
        simp [badB, hw]
        refine ⟨j + 1, ⟨by omega, by rw [hx2, he]; simp⟩, by omega, ?_⟩
        simp [Leq, hh, hil, hx1, hx2, he, ltL_mono (Nat.le_add_right _ 1) hlf, ltL_mono (Nat.le_add_right _ 1) hlc, scC_lt, hi1]
    · have hlt' : ¬ (j : Int) < n := by omega
      have : j = n := by omega
      subst this
      have h6 : listV v s st = (readR v s j (numS st 2)).1 ∧ listS v s st = (readR v s j (numS st 2)).2 := by
        unfold listV listS
        rw [hn]
        simp only [Int.toNat_natCast]
        refine ⟨?_, trivial⟩
        rcases hj2 with rfl | h7
        · by_cases h8 : (readR v s 0 (numS st 2)).2 = none
          · rw [if_pos h8]; rfl
          · rw [if_neg h8]
        · rw [if_neg h7]
      simp [hh, hil, h6, scC]

theorem wnumr1_c (a b : Nat) (h : List (List AV)) (i : Nat) (size : Int) (st : Sta) (ha : h[a]? = some [.box i 0]) (hb : h[b]? = some [.v (.int .i64 size)]) (hi : h[i]? = some (scC st)) :
    Contract Try.prog 159 [.box a 0, .box b 0] h (.v (.int .i64 (numV st size))) (h.set i (scC (numS st size))) [i] := by
  refine contract_of k159 mixed (by simp [c159]) fun hh hargs => ?_
  simp [c159, ha, hb]
  refine xcall_self (by simp) (num_c i h st hi size) ?_
  simp [hh, scC_lt]
theorem wnumr_c (i : Nat) (h : List (List AV)) (st : Sta) (hi : h[i]? = some (scC st)) (size : Int) :
    Contract Try.prog 124 [.agg [.box i 0], .v (.int .i64 size)] h (.sl 1 (enc intC (listV (numV · size) (numS · size) st)) none .no) (h.set i (scC (listS (numV · size) (numS · size) st))) [i] := by
  have hil := heap_lt hi
  refine contract_of k124 mixed (by simp [c124]) fun hh hargs => ?_
  simp [c124]
  refine xcall_self (by simp) (wreadI_c (numV · size) (numS · size) rfl _ [] [.box h.length 0, .box (h.length + 1) 0] i _ st (app_get hi _) (by simp) (by simp) (by simp) (by simp) fun st' h' => ?_) ?_
  · have := wnumr1_c h.length (h.length + 1) (h.set i (scC st') ++ ([[.box i 0], [.v (.int .i64 size)]] ++ h')) i size st' (by simp) (by simp) (app_set_get hil _ _)
    rw [app_set_set hil, ← List.append_assoc, ← List.append_assoc] at this
    simpa [app_set hil] using this
  · simp [hh, app_set hil, scC_lt]
/-- A cell that is read. -/
def cellV (st : Sta) : Cl := if numV st 4 = 4294967295 then (true, []) else (false, takeL (numS st 4) (numV st 4))
def cellS (st : Sta) : Sta := if numV st 4 = 4294967295 then numS st 4 else takeS (numS st 4) (numV st 4)
theorem cellS_none : cellS none = none := by simp [cellS, numS, numV, takeS]
theorem wcellr_c (i : Nat) (h : List (List AV)) (st : Sta) (hi : h[i]? = some (scC st)) :
    Contract Try.prog 161 [.agg [.box i 0]] h (.agg (cellC (cellV st))) (h.set i (scC (cellS st))) [i] := by
  have hil := heap_lt hi
  refine contract_of k161 mixed (by simp [c161]) fun hh hargs => ?_
  simp [c161]
  refine xcall_self (by simp) (num_c i _ st (app_get hi _) 4) ?_
  by_cases hn : numV st 4 = 4294967295
  · have e1 : cellV st = (true, []) := if_pos hn
    have e2 : cellS st = numS st 4 := if_pos hn
    rw [e1, e2]
    simp [hn, hh, app_set hil, scC_lt, cellC]
  · have e1 : cellV st = (false, takeL (numS st 4) (numV st 4)) := if_neg hn
    have e2 : cellS st = takeS (numS st 4) (numV st 4) := if_neg hn
    rw [e1, e2]
    simp [hn, app_set hil]
    refine xcall_self (by simp) (take_c i _ (numS st 4) (app_set_get hil _ _) _) ?_
    simp [hh, app_set hil, app_set_set hil, scC_lt, cellC]
theorem wcellsr_c (i : Nat) (h : List (List AV)) (st : Sta) (hi : h[i]? = some (scC st)) :
    Contract Try.prog 125 [.agg [.box i 0]] h (.sl 2 (enc cellC (listV cellV cellS st)) none .no) (h.set i (scC (listS cellV cellS st))) [i] := by
  have hil := heap_lt hi
  refine contract_of k125 mixed (by simp [c125]) fun hh hargs => ?_
  simp [c125]
  refine xcall_self (by simp) (wreadC_c cellV cellS cellS_none _ [.agg [.box i 0]] [] i _ st (app_get hi _) (by simp) (by simp) (by simp; omega) (by simp) fun st' h' => ?_) ?_
  · have := wcellr_c i (h.set i (scC st') ++ ([[.box i 0]] ++ h')) st' (app_set_get hil _ _)
    rw [app_set_set hil, ← List.append_assoc, ← List.append_assoc] at this
    simpa [app_set hil] using this
  · simp [hh, app_set hil, scC_lt]

/-! ### The document's -/
/-- What is read as long as all could be had. -/
def readU {α : Type} (v : Sta → α) (s : Sta → Sta) : Nat → Sta → List α
  | 0, _ => []
  | k + 1, st => if st = none then [] else v st :: readU v s k (s st)
theorem readU_at {α : Type} (v : Sta → α) (s : Sta → Sta) : ∀ (n j : Nat) (st : Sta), j ≤ n → (∀ t, t < j → (readR v s t st).2 ≠ none) → (j = n ∨ (readR v s j st).2 = none) → readU v s n st = (readR v s j st).1
  | 0, j, st, h1, _, _ => by
    have : j = 0 := by omega
    subst this; rfl
  | n + 1, 0, st, _, _, h3 => by
    rcases h3 with h3 | h3
    · omega
    · have : st = none := h3
      rw [readU, if_pos this]; rfl
  | n + 1, j + 1, st, h1, h2, h3 => by
    have h4 : st ≠ none := h2 0 (by omega)
    have h5 : j = n ∨ (readR v s j (s st)).2 = none := h3.imp (by omega) id
    rw [readU, if_neg h4, readU_at v s n j (s st) (by omega) (fun t ht => h2 (t + 1) (by omega)) h5]
    rfl
theorem readU_len {α : Type} (v : Sta → α) (s : Sta → Sta) : ∀ (n : Nat) (st : Sta), (readU v s n st).length ≤ n
  | 0, _ => Nat.le_refl _
  | n + 1, st => by
    unfold readU; split
    · simp
    · have := readU_len v s n (s st); simp; omega
/-- A list that the document reads. -/
def listU {α : Type} (v : Sta → α) (s : Sta → Sta) (st : Sta) : List α := readU v s (numV st 2).toNat (numS st 2)
theorem listU_eq {α : Type} (v : Sta → α) (s : Sta → Sta) (hs : s none = none) (st : Sta) (h : listS v s st ≠ none) : listU v s st = listV v s st := by
  unfold listV listU
  unfold listS at h
  rw [if_neg h]
  exact readU_at v s _ _ _ (Nat.le_refl _) (fun t ht hh => h (readR_bad v s hs (by omega) hh)) (.inl rfl)
/-- The document's scan goes on so, again and again. -/
def rsN (q : Rs → Rs) : Nat → Rs → Rs
  | 0, r => r
  | k + 1, r => rsN q k (q r)
theorem rsN_next (q : Rs → Rs) : ∀ (k : Nat) (r : Rs), rsN q (k + 1) r = q (rsN q k r)
  | 0, _ => rfl
  | k + 1, r => by rw [rsN, rsN_next q k]; rfl
theorem rsN_abs {α : Type} (v : Sta → α) {s : Sta → Sta} {q : Rs → Rs} (hq : ∀ r, rabs (q r) = s (rabs r)) : ∀ (k : Nat) (r : Rs), rabs (rsN q k r) = (readR v s k (rabs r)).2
  | 0, _ => rfl
  | k + 1, r => by rw [rsN, rsN_abs v hq k, hq]; rfl
theorem rsN_bad {q : Rs → Rs} (hb : ∀ r, rabs r = none → q r = r) : ∀ (k : Nat) {r : Rs}, rabs r = none → rsN q k r = r
  | 0, _, _ => rfl
  | k + 1, r, h => by rw [rsN, hb r h, rsN_bad hb k h]
theorem rsN_add (q : Rs → Rs) : ∀ (k j : Nat) (r : Rs), rsN q (j + k) r = rsN q k (rsN q j r)
  | k, 0, r => by rw [Nat.zero_add]; rfl
  | k, j + 1, r => by rw [Nat.add_right_comm, rsN, rsN_add q k j]; rfl
def listRs (q : Rs → Rs) (r : Rs) : Rs := rsN q (numV (rabs r) 2).toNat (rstep (numS · 2) r)
theorem listRs_abs {α : Type} (v : Sta → α) {s : Sta → Sta} {q : Rs → Rs} (hq : ∀ r, rabs (q r) = s (rabs r)) (r : Rs) : rabs (listRs q r) = listS v s (rabs r) := by
  unfold listRs listS
  rw [rsN_abs v hq, rabs_step]
theorem listRs_bad {q : Rs → Rs} (hb : ∀ r, rabs r = none → q r = r) {r : Rs} (h : rabs r = none) : listRs q r = r := by
  unfold listRs
  rw [rstep_bad rfl h, rsN_bad hb _ h]

section
variable {α : Type} (v : Sta → α) (s : Sta → Sta) (q : Rs → Rs) (hq : ∀ r, rabs (q r) = s (rabs r)) (hb : ∀ r, rabs r = none → q r = r) (r : Rs) (n : Nat) (hn : numV (rabs r) 2 = n)
include hq hn
/-- Where the loop ends. -/
theorem list_end (hb : ∀ r, rabs r = none → q r = r) (j : Nat) (hj : j ≤ n) (h1 : ∀ t, t < j → rabs (rsN q t (rstep (numS · 2) r)) ≠ none) (h2 : j = n ∨ rabs (rsN q j (rstep (numS · 2) r)) = none) :
    listU v s (rabs r) = (readR v s j (numS (rabs r) 2)).1 ∧ listRs q r = rsN q j (rstep (numS · 2) r) := by
  constructor
  · unfold listU
    rw [hn, Int.toNat_natCast]
    refine readU_at v s n j _ hj (fun t ht => ?_) (h2.imp id fun h => ?_)
    · rw [← rabs_step (numS · 2), ← rsN_abs v hq]; exact h1 t ht
    · rw [← rabs_step (numS · 2), ← rsN_abs v hq]; exact h
  · unfold listRs
    rw [hn, Int.toNat_natCast]
    rcases h2 with rfl | h2
    · rfl
    · obtain ⟨k, rfl⟩ : ∃ k, n = j + k := ⟨n - j, by omega⟩
      rw [rsN_add, rsN_bad hb _ h2]
end
theorem rabs_none {r : Rs} (h : rabs r = none) : r.2 = true := by
  obtain ⟨b, no⟩ := r
  cases no with
  | true => rfl
  | false => cases h
theorem rabs_some {r : Rs} (h : rabs r ≠ none) : r.2 = false := by
  obtain ⟨b, no⟩ := r
  cases no with
  | true => exact absurd rfl h
  | false => rfl
theorem rsC_eq (r : Rs) : rsC r = [.sl 1 (bytesE r.1) none .no, .v (.bool r.2)] := rfl

theorem nums_c (i : Nat) (h : List (List AV)) (r : Rs) (hi : h[i]? = some (rsC r)) (size : Int) :
    Contract Try.prog 126 [.box i 0, .v (.int .i64 size)] h (.sl 1 (enc intC (listU (numV · size) (numS · size) (rabs r))) none .no) (h.set i (rsC (listRs (rstep (numS · size)) r))) [i] := by
  have hil := heap_lt hi
  obtain ⟨hn0, hn1⟩ := num2_range (rabs r)
  obtain ⟨n, hn⟩ : ∃ n : Nat, numV (rabs r) 2 = n := ⟨(numV (rabs r) 2).toNat, by omega⟩
  refine contract_of k126 mixed (by simp [c126]) fun hh hargs => ?_
  simp at hargs
  simp [c126]
  refine xcall_self (by simp) (rnum_c i _ r hi 2) ?_
  simp [hn]
  refine xloop_ok (D := Nat) (fun j => ⟨[(0, .box i 0), (1, .v (.int .i64 size)), (6, .v (.int .i64 ((n : Int) - j)))], [(5, .sl 1 (enc intC (readR (numV · size) (numS · size) j (numS (rabs r) 2)).1) none (.own (.slot 5)))], h.set i (rsC (rsN (rstep (numS · size)) j (rstep (numS · 2) r))), [i]⟩)
    (fun j => j ≤ n ∧ ∀ t, t < j → rabs (rsN (rstep (numS · size)) t (rstep (numS · 2) r)) ≠ none) (fun j => n - j) 0 (by simp) ?_ ?_
  · simp [Leq, hh, hil, readR, rsN, rsC_lt]
  · rintro j ⟨hj, hj2⟩
    have hg := set_get hi (rsC (rsN (rstep (numS · size)) j (rstep (numS · 2) r)))
    have hend := list_end (numV · size) (numS · size) (rstep (numS · size)) (fun r => rabs_step _ r) r n hn (fun r h => rstep_bad rfl h) j hj hj2
    by_cases hlt : j < n
    · have hlt' : (0 : Int) < n - j := by omega
      by_cases hbad : rabs (rsN (rstep (numS · size)) j (rstep (numS · 2) r)) = none
      · obtain ⟨e1, e2⟩ := hend (.inr hbad)
        have e3 := rabs_none hbad
        have hg' := hg
        conv at hg' => rhs; rw [rsC_eq]
        rw [e1, e2]
        simp [hlt', hlt, hg', e3, hh, hil, rsC_lt, rsC_eq]
      · have e3 := rabs_some hbad
        have hg' := hg
        conv at hg' => rhs; rw [rsC_eq]
        have hw : IntKind.i64.wrap ((n : Int) - j - 1) = (n : Int) - (j + 1 : Nat) := by rw [wrap64 (by omega) (by omega)]; omega
        have hx := readR_next (numV · size) (numS · size) j (numS (rabs r) 2)
        have hy := rsN_next (rstep (numS · size)) j (rstep (numS · 2) r)
        have hb1 : (j + 1) * 8 ≤ 140737488355328 := by omega
        have hb2 : (j + 1) ≤ 140737488355328 := by omega
        have habs : rabs (rsN (rstep (numS · size)) j (rstep (numS · 2) r)) = (readR (numV · size) (numS · size) j (numS (rabs r) 2)).2 := by
          rw [rsN_abs (numV · size) (fun r => rabs_step _ r), rabs_step]
        simp [hlt', hlt, hg', e3]
        refine xcall_self (by simp) (rnum_c i _ _ hg size) ?_
        simp [hw, hb1, hb2]
        refine ⟨j + 1, ⟨by omega, fun t ht => ?_⟩, by omega, ?_⟩
        · by_cases htj : t < j
          · exact hj2 t htj
          · have : t = j := by omega
            subst this; exact hbad
        · simp [Leq, hh, hil, hx, hy, habs, rsC_lt, intC]
    · have hlt' : ¬ (0 : Int) < n - j := by omega
      obtain ⟨e1, e2⟩ := hend (.inl (by omega))
      rw [e1, e2]
      simp [hlt', hlt, hh, hil, rsC_lt]
theorem numS_len (st : Sta) (n : Int) : He.lenS (numS st n) ≤ He.lenS st := by
  unfold numS; split
  · split
    · simp [He.lenS]
    · simp [He.lenS]
  · exact Nat.le_refl _
theorem takeS_len (st : Sta) (n : Int) : He.lenS (takeS st n) ≤ He.lenS st := by
  unfold takeS; split
  · split
    · simp [He.lenS]
    · simp [He.lenS]
  · exact Nat.le_refl _
theorem cellS_len (st : Sta) : He.lenS (cellS st) ≤ He.lenS st := by
  unfold cellS; split
  · exact numS_len _ _
  · exact Nat.le_trans (takeS_len _ _) (numS_len _ _)
/-- The document's scan behind a cell. -/
def rcellQ (r : Rs) : Rs := if numV (rabs r) 4 = 4294967295 then rstep (numS · 4) r else rstep (takeS · (numV (rabs r) 4)) (rstep (numS · 4) r)
theorem rcell_abs (r : Rs) : rabs (rcellQ r) = cellS (rabs r) := by
  unfold rcellQ cellS
  split
  · rw [rabs_step]
  · rw [rabs_step, rabs_step]
theorem rcell_bad {r : Rs} (h : rabs r = none) : rcellQ r = r := by
  unfold rcellQ
  split
  · exact rstep_bad rfl h
  · rw [rstep_bad (f := (numS · 4)) rfl h, rstep_bad rfl h]
theorem row_c (i : Nat) (h : List (List AV)) (r : Rs) (hi : h[i]? = some (rsC r)) (hl : He.lenS (rabs r) ≤ 140737488355328) :
    Contract Try.prog 127 [.box i 0] h (.sl 2 (enc cellC (listU cellV cellS (rabs r))) none .no) (h.set i (rsC (listRs rcellQ r))) [i] := by
  have hil := heap_lt hi
  obtain ⟨hn0, hn1⟩ := num2_range (rabs r)
  obtain ⟨n, hn⟩ : ∃ n : Nat, numV (rabs r) 2 = n := ⟨(numV (rabs r) 2).toNat, by omega⟩
  refine contract_of k127 mixed (by simp [c127]) fun hh hargs => ?_
  simp at hargs
  simp [c127]
  refine xcall_self (by simp) (rnum_c i _ r hi 2) ?_
  simp [hn]
  refine xloop_ok (D := Nat) (fun j => ⟨[(0, .box i 0), (4, .v (.int .i64 ((n : Int) - j)))], [(3, .sl 2 (enc cellC (readR cellV cellS j (numS (rabs r) 2)).1) none (.own (.slot 3)))], h.set i (rsC (rsN rcellQ j (rstep (numS · 2) r))), [i]⟩)
    (fun j => j ≤ n ∧ ∀ t, t < j → rabs (rsN rcellQ t (rstep (numS · 2) r)) ≠ none) (fun j => n - j) 0 (by simp) ?_ ?_
  · simp [Leq, hh, hil, readR, rsN, rsC_lt]
  · rintro j ⟨hj, hj2⟩
    have hg := set_get hi (rsC (rsN rcellQ j (rstep (numS · 2) r)))
    have hend := list_end cellV cellS rcellQ rcell_abs r n hn (fun r h => rcell_bad h) j hj hj2
    by_cases hlt : j < n
    · have hlt' : (0 : Int) < n - j := by omega
      by_cases hbad : rabs (rsN rcellQ j (rstep (numS · 2) r)) = none
      · obtain ⟨e1, e2⟩ := hend (.inr hbad)
        have e3 := rabs_none hbad
        have hg' := hg
        conv at hg' => rhs; rw [rsC_eq]
        rw [e1, e2]
        simp [hlt', hlt, hg', e3, hh, hil, rsC_lt, rsC_eq]
      · have e3 := rabs_some hbad
        have hg' := hg
        conv at hg' => rhs; rw [rsC_eq]
        have hw : IntKind.i64.wrap ((n : Int) - j - 1) = (n : Int) - (j + 1 : Nat) := by rw [wrap64 (by omega) (by omega)]; omega
        have hx := readR_next cellV cellS j (numS (rabs r) 2)
        have hy := rsN_next rcellQ j (rstep (numS · 2) r)
        have hb1 : (j + 1) * 32 ≤ 140737488355328 := by omega
        have hb2 : (j + 1) ≤ 140737488355328 := by omega
        have habs : rabs (rsN rcellQ j (rstep (numS · 2) r)) = (readR cellV cellS j (numS (rabs r) 2)).2 := by
          rw [rsN_abs cellV rcell_abs, rabs_step]
        simp [hlt', hlt, hg', e3]
        refine xcall_self (by simp) (rnum_c i _ _ hg 4) ?_
        have hlen : He.lenS (rabs (rsN rcellQ j (rstep (numS · 2) r))) ≤ 140737488355328 := by
          rw [habs]
          have := readR_lenS cellV cellS cellS_len j (numS (rabs r) 2)
          have := numS_len (rabs r) 2
          omega
        generalize hR : rsN rcellQ j (rstep (numS · 2) r) = R at *
        by_cases hnul : numV (rabs R) 4 = 4294967295
        · have q1 : rcellQ R = rstep (numS · 4) R := if_pos hnul
          have q2 : cellV (rabs R) = (true, []) := if_pos hnul
          simp [hnul, hw, hb1, hb2]
          refine ⟨j + 1, ⟨by omega, fun t ht => ?_⟩, by omega, ?_⟩
          · by_cases htj : t < j
            · exact hj2 t htj
            · have : t = j := by omega
              subst this; rw [hR]; exact hbad
          · simp [Leq, hh, hil, hx, hy, ← habs, q1, q2, rsC_lt, cellC]
        · have q1 : rcellQ R = rstep (takeS · (numV (rabs R) 4)) (rstep (numS · 4) R) := if_neg hnul
          have q2 : cellV (rabs R) = (false, takeL (numS (rabs R) 4) (numV (rabs R) 4)) := if_neg hnul
          simp [hnul]
          refine xcall_self (by simp) (rtake_c i _ (rstep (numS · 4) R) (set_get hi _) _ (by rw [rabs_step]; have := numS_len (rabs R) 4; omega)) ?_
          simp [hw, hb1, hb2, rabs_step]
          refine ⟨j + 1, ⟨by omega, fun t ht => ?_⟩, by omega, ?_⟩
          · by_cases htj : t < j
            · exact hj2 t htj
            · have : t = j := by omega
              subst this; rw [hR]; exact hbad
          · simp [Leq, hh, hil, hx, hy, ← habs, q1, q2, rsC_lt, cellC]
    · have hlt' : ¬ (0 : Int) < n - j := by omega
      obtain ⟨e1, e2⟩ := hend (.inl (by omega))
      rw [e1, e2]
      simp [hlt', hlt, hh, hil, rsC_lt]
end Go.Proofs.Ytcaimoidnppnbaa.Ax
/- Front's messages as bytes, over values without memory: both sides. -/
namespace Go.Proofs.Ytcaimoidnppnbaa.Ax
open Go.RowKit Go By Nm Sc Dg
set_option linter.unusedSimpArgs false
set_option linter.unusedVariables false
set_option maxRecDepth 10000

/-! ### slices.Concat -/
def bytC (b : List UInt8) : List AV := [.sl 1 (bytesE b) none .no]
@[simp] theorem ltLL_bytC (n : Nat) (l : List (List UInt8)) : ltLL n (enc bytC l) := ltLL_enc bytC n (fun _ => by simp [bytC]) l
/-- Lists of bytes, one behind the other. -/
def catL (l : List (List UInt8)) : List UInt8 := l.flatMap id
theorem catL_step (l : List (List UInt8)) (a j : Nat) (hj : j < l.length) (N : Nat) (hN : a + (catL l).length ≤ N) : catL (l.take (j + 1)) = catL (l.take j) ++ l[j] ∧ a + ((catL (l.take j)).length + l[j].length) ≤ N := flat_step id l a j hj N hN
@[simp] theorem catL_nil : catL [] = [] := of_eq_true (eq_self _)
@[simp] theorem catL_cons (x : List UInt8) (l : List (List UInt8)) : catL (x :: l) = x ++ catL l := of_eq_true (eq_self _)
theorem concat_c (l : List (List UInt8)) (h : List (List AV)) (hl : (catL l).length ≤ 140737488355328) (hn : l.length ≤ 140737488355328) : Contract Try.prog 112 [.sl 1 (enc bytC l) none .no] h (.sl 1 (bytesE (catL l)) none (.own .res)) h [] := by
  refine contract_of k112 mixed (by simp [c112]) fun hh hargs => ?_
  simp [c112]
  refine xloop_ok (D := Nat) (fun j => ⟨[(0, .sl 1 (enc bytC l) none .no), (3, .v (.int .i64 (catL (l.take j)).length)), (9, .sl 1 (enc bytC l) none .no), (10, .v (.int .i64 l.length)), (11, .v (.int .i64 j))], [], h, []⟩) (fun j => j ≤ l.length) (fun j => l.length - j) 0 (by simp) ?_ ?_
  · simp [Leq, hh]
  · intro j hj
    by_cases hlt : j < l.length
    · have hw : IntKind.i64.wrap ((j : Int) + 1) = (j : Int) + 1 := wrap64 (by omega) (by omega)
      obtain ⟨hx, hb⟩ := catL_step l 0 j hlt _ (by simpa using hl)
      have hw2 : IntKind.i64.wrap (((catL (l.take j)).length : Int) + (l[j].length : Int)) = ((catL (l.take (j + 1))).length : Int) := by
        rw [hx, List.length_append, wrap64 (by omega) (by omega)]; simp
      have h0 : ¬ ((catL (l.take (j + 1))).length : Int) < 0 := by omega
      simp [hlt, bytC, hw, hw2, h0]
      refine ⟨j + 1, by omega, by omega, ?_⟩
      simp [Leq, hh]
    · have : j = l.length := by omega
      subst this
      simp 
      refine xcall_self (by simp) (grow_c _ hl h) ?_
      simp 
      refine xloop_ok (D := Nat) (fun j => ⟨[(25, .sl 1 (enc bytC l) none .no), (26, .v (.int .i64 l.length)), (27, .v (.int .i64 j))], [(6, .sl 1 (bytesE (catL (l.take j))) none (.own (.slot 6)))], h, []⟩) (fun j => j ≤ l.length) (fun j => l.length - j) 0 (by simp) ?_ ?_
      · simp [Leq, hh]
      · intro j hj
        by_cases hlt : j < l.length
        · have hw : IntKind.i64.wrap ((j : Int) + 1) = (j : Int) + 1 := wrap64 (by omega) (by omega)
          obtain ⟨hx, hb⟩ := catL_step l 0 j hlt _ (by simpa using hl)
          simp [hlt, bytC, hw]
          refine ⟨by omega, j + 1, by omega, by omega, ?_⟩
          simp [Leq, hh, hx]
        · have : j = l.length := by omega
          subst this
          simp [hh]

/-! ### A body -/
def bodyF (m : Fm) : List UInt8 :=
  if m.kind = 80 then textsL [m.name, m.text] ++ listL (numE 4) m.oids
  else if m.kind = 66 then textsL [m.portal, m.name] ++ (listL (numE 2) m.formats ++ (listL cellE m.params ++ listL (numE 2) m.results))
  else if m.kind = 67 ∨ m.kind = 68 then UInt8.ofNat m.what.toNat :: textsL [m.name ++ m.portal]
  else if m.kind = 69 then putL (textsL [m.portal]) m.max 4
  else if m.kind = 81 then textsL [m.text]
  else []
theorem fbody_c (m : Fm) (hf : FmFit m) (hw : 0 ≤ m.what ∧ m.what < 256) (h : List (List AV)) (hb : (bodyF m).length ≤ 140737488351232) (hc : ∀ c ∈ m.params, c.2.length ≤ 70000000000000) : Contract Try.prog 60 [.agg (fmC m)] h (.sl 1 (bytesE (bodyF m)) none .no) h [] := by
  obtain ⟨q1, q2, q3, q4, q5, q6, q7, q8⟩ := hf
  refine contract_of k60 mixed (by simp [c60]) fun hh hargs => ?_
  by_cases h80 : m.kind = 80
  · have e : bodyF m = textsL [m.name, m.text] ++ listL (numE 4) m.oids := if_pos h80
    rw [e] at hb ⊢
    rw [List.length_append] at hb
    simp [c60, h80]
    refine xcall_of (wtexts_c [m.name, m.text] (by omega) _) (by simp [strC]) (by simp) ?_
    simp
    refine xcall_self (by simp) (wnumbers_c 4 m.oids _ (by omega) q1) ?_
    simp
    refine xcall_of (concat_c [textsL [m.name, m.text], listL (numE 4) m.oids] _ (by simp; omega) (by simp)) (by simp [bytC]) (by simp) ?_
    simp [hh]
  by_cases h66 : m.kind = 66
  · have e : bodyF m = textsL [m.portal, m.name] ++ (listL (numE 2) m.formats ++ (listL cellE m.params ++ listL (numE 2) m.results)) := by unfold bodyF; rw [if_neg h80, if_pos h66]
    rw [e] at hb ⊢
    simp only [List.length_append] at hb
    simp [c60, h66]
    refine xcall_of (wtexts_c [m.portal, m.name] (by omega) _) (by simp [strC]) (by simp) ?_
    simp
    refine xcall_self (by simp) (wnumbers_c 2 m.formats _ (by omega) q2) ?_
    simp
    refine xcall_self (by simp) (wcells2_c m.params _ (by omega) q4 hc) ?_
    simp
    refine xcall_self (by simp) (wnumbers_c 2 m.results _ (by omega) q3) ?_
    simp
    refine xcall_of (concat_c [textsL [m.portal, m.name], listL (numE 2) m.formats, listL cellE m.params, listL (numE 2) m.results] _ (by simp; omega) (by simp)) (by simp [bytC]) (by simp) ?_
    simp [hh]
  have hwt : (((UInt8.ofNat m.what.toNat).toNat : Nat) : Int) = m.what := by simp; omega
  have hw3 : max m.what 0 % 256 = m.what := by omega
  by_cases h67 : m.kind = 67
  · have e : bodyF m = UInt8.ofNat m.what.toNat :: textsL [m.name ++ m.portal] := by unfold bodyF; rw [if_neg h80, if_neg h66, if_pos (.inl h67)]
    rw [e] at hb ⊢
    simp only [List.length_cons] at hb
    simp [c60, h67]
    have hl : m.name.length + m.portal.length ≤ 140737488351232 := by simp [textsL, He.encT] at hb; omega
    refine ⟨by omega, ?_, ?_, ?_⟩
    all_goals
      refine xcall_of (wtexts_c [m.name ++ m.portal] (by omega) _) (by simp [strC]) (by simp) ?_
      simp [hh, hw3]
      omega
  by_cases h68 : m.kind = 68
  · have e : bodyF m = UInt8.ofNat m.what.toNat :: textsL [m.name ++ m.portal] := by unfold bodyF; rw [if_neg h80, if_neg h66, if_pos (.inr h68)]
    rw [e] at hb ⊢
    simp only [List.length_cons] at hb
    simp [c60, h68]
    have hl : m.name.length + m.portal.length ≤ 140737488351232 := by simp [textsL, He.encT] at hb; omega
    refine ⟨by omega, ?_, ?_, ?_⟩
    all_goals
      refine xcall_of (wtexts_c [m.name ++ m.portal] (by omega) _) (by simp [strC]) (by simp) ?_
      simp [hh, hw3]
      omega
  by_cases h69 : m.kind = 69
  · have e : bodyF m = putL (textsL [m.portal]) m.max 4 := by unfold bodyF; rw [if_neg h80, if_neg h66, if_neg (by omega), if_pos h69]
    rw [e] at hb ⊢
    have hb2 : (textsL [m.portal]).length ≤ (putL (textsL [m.portal]) m.max 4).length := by
      unfold putL; split
      · simp
      · exact Nat.le_refl _
    simp [c60, h69]
    refine xcall_of (wtexts_c [m.portal] (by omega) _) (by simp [strC]) (by simp) ?_
    simp
    refine xcall_of (put_c (textsL [m.portal]) m.max 4 (by omega) _) (by simp) (by simp) ?_
    simp [hh]
  by_cases h81 : m.kind = 81
  · have e : bodyF m = textsL [m.text] := by unfold bodyF; rw [if_neg h80, if_neg h66, if_neg (by omega), if_neg h69, if_pos h81]
    rw [e] at hb ⊢
    simp [c60, h81]
    refine xcall_of (wtexts_c [m.text] (by omega) _) (by simp [strC]) (by simp) ?_
    simp [hh]
  have e : bodyF m = [] := by unfold bodyF; rw [if_neg h80, if_neg h66, if_neg (by omega), if_neg h69, if_neg h81]
  rw [e]
  simp [c60, h80, h66, h67, h68, h69, h81, hh]
/-- What Encode answers. -/
def encF (m : Fm) : Ms × Int := if checkF m = 0 then (⟨m.kind, bodyF m⟩, 0) else (⟨0, []⟩, checkF m)
theorem fencode_c (m : Fm) (hf : FmFit m) (hw : 0 ≤ m.what ∧ m.what < 256) (h : List (List AV)) (hb : (bodyF m).length ≤ 140737488351232) (hc : ∀ c ∈ m.params, c.2.length ≤ 70000000000000) : Contract Try.prog 23 [.agg (fmC m)] h (.tup [.agg (msC (encF m).1), .v (.int .i64 (encF m).2)]) h [] := by
  refine contract_of k23 mixed (by simp [c23]) fun hh hargs => ?_
  simp [c23]
  refine xcall_self (by simp) (fcheck_c m hf _) ?_
  by_cases he : checkF m = 0
  · simp [he]
    refine xcall_self (by simp) (fbody_c m hf hw _ hb hc) ?_
    simp [hh, encF, he, msC_mk]
  · simp [he, hh, encF, msC_mk]
end Go.Proofs.Ytcaimoidnppnbaa.Ax
/- Front's messages out of bytes, over values without memory: both sides. -/
namespace Go.Proofs.Ytcaimoidnppnbaa.Ax
open Go.RowKit Go By Nm Sc Dg
set_option linter.unusedSimpArgs false
set_option linter.unusedVariables false
set_option maxRecDepth 10000

abbrev numbersV (size : Int) (st : Sta) : List Int := listV (numV · size) (numS · size) st
abbrev numbersS (size : Int) (st : Sta) : Sta := listS (numV · size) (numS · size) st
abbrev cellsV (st : Sta) : List Cl := listV cellV cellS st
abbrev cellsS (st : Sta) : Sta := listS cellV cellS st
open He (textL)
theorem listS_len {α : Type} (v : Sta → α) (s : Sta → Sta) (hs : ∀ st, He.lenS (s st) ≤ He.lenS st) (st : Sta) : He.lenS (listS v s st) ≤ He.lenS st := by
  unfold listS
  exact Nat.le_trans (readR_lenS v s hs _ _) (numS_len _ _)
/-- What a body says, and what is left of it. -/
def readV (kind : Int) (st : Sta) : Fm :=
  if kind = 80 then ⟨80, 0, textL st, [], textL (textS st), numbersV 4 (textS (textS st)), [], [], [], 0⟩
  else if kind = 66 then ⟨66, 0, textL (textS st), textL st, [], [], numbersV 2 (textS (textS st)), numbersV 2 (cellsS (numbersS 2 (textS (textS st)))), cellsV (numbersS 2 (textS (textS st))), 0⟩
  else if kind = 67 ∨ kind = 68 then (if numV st 1 = 83 then ⟨kind, numV st 1, textL (numS st 1), [], [], [], [], [], [], 0⟩ else ⟨kind, numV st 1, [], textL (numS st 1), [], [], [], [], [], 0⟩)
  else if kind = 69 then ⟨69, 0, [], textL st, [], [], [], [], [], signedI (numV (textS st) 4) 4⟩
  else if kind = 81 then ⟨81, 0, [], [], textL st, [], [], [], [], 0⟩
  else ⟨kind, 0, [], [], [], [], [], [], [], 0⟩
def readS (kind : Int) (st : Sta) : Sta :=
  if kind = 80 then numbersS 4 (textS (textS st))
  else if kind = 66 then numbersS 2 (cellsS (numbersS 2 (textS (textS st))))
  else if kind = 67 ∨ kind = 68 then textS (numS st 1)
  else if kind = 69 then numS (textS st) 4
  else if kind = 81 then textS st
  else st
theorem num1_range (st : Sta) : 0 ≤ numV st 1 ∧ numV st 1 < 256 := by
  unfold numV
  split
  · split
    · exact ⟨(getI_range _ 0 1 (by omega)).1, by have := (getI_range (by assumption) 0 1 (by omega)).2; simpa using this⟩
    · omega
  · omega
theorem wrap_u8 {n : Int} (h : 0 ≤ n ∧ n < 256) : IntKind.u8.wrap n = n := by
  simp only [IntKind.wrap]
  simp [IntKind.bits, IntKind.signed]
  omega
theorem freader_c (i : Nat) (h : List (List AV)) (st : Sta) (hi : h[i]? = some (scC st)) (hl : He.lenS st ≤ 140737488355328) (kind : Int) :
    Contract Try.prog 80 [.agg [.box i 0], .v (.int .u8 kind)] h (.agg (fmC (readV kind st))) (h.set i (scC (readS kind st))) [i] := by
  have hil := heap_lt hi
  have hl1 : He.lenS (textS st) ≤ 140737488355328 := Nat.le_trans (He.textS_len st) hl
  refine contract_of k80 mixed (by simp [c80]) fun hh hargs => ?_
  by_cases h80 : kind = 80
  · subst h80
    simp [c80]
    refine xcall_self (by simp) (text_c i _ st (app_get hi _) hl) ?_
    simp [app_set hil]
    refine xcall_self (by simp) (text_c i _ (textS st) (app_set_get hil _ _) hl1) ?_
    simp [app_set_set hil]
    refine xcall_self (by simp) (wnumr_c i _ (textS (textS st)) (app_set_get hil _ _) 4) ?_
    simp [app_set_set hil, hh, readV, readS, scC_lt, fmC_mk]
  by_cases h66 : kind = 66
  · subst h66
    simp [c80]
    refine xcall_self (by simp) (text_c i _ st (app_get hi _) hl) ?_
    simp [app_set hil]
    refine xcall_self (by simp) (text_c i _ (textS st) (app_set_get hil _ _) hl1) ?_
    simp [app_set_set hil]
    refine xcall_self (by simp) (wnumr_c i _ (textS (textS st)) (app_set_get hil _ _) 2) ?_
    simp [app_set_set hil]
    refine xcall_self (by simp) (wcellsr_c i _ _ (app_set_get hil _ _)) ?_
    simp [app_set_set hil]
    refine xcall_self (by simp) (wnumr_c i _ _ (app_set_get hil _ _) 2) ?_
    simp [app_set_set hil, hh, readV, readS, scC_lt, fmC_mk]
  by_cases h678 : kind = 67 ∨ kind = 68
  · have e1 : readV kind st = if numV st 1 = 83 then ⟨kind, numV st 1, textL (numS st 1), [], [], [], [], [], [], 0⟩ else ⟨kind, numV st 1, [], textL (numS st 1), [], [], [], [], [], 0⟩ := by unfold readV; rw [if_neg h80, if_neg h66, if_pos h678]
    have e2 : readS kind st = textS (numS st 1) := by unfold readS; rw [if_neg h80, if_neg h66, if_pos h678]
    have hl3 : He.lenS (numS st 1) ≤ 140737488355328 := Nat.le_trans (numS_len _ _) hl
    have hwr := wrap_u8 (num1_range st)
    have hw83 : IntKind.u8.wrap 83 = 83 := wrap_u8 (by omega)
    rw [e1, e2]
    rcases h678 with rfl | rfl
    all_goals
      simp [c80]
      refine xcall_self (by simp) (num_c i _ st (app_get hi _) 1) ?_
      by_cases hw : numV st 1 = 83
      · simp [app_set hil, hwr, hw, hw83]
        refine xcall_self (by simp) (text_c i _ _ (app_set_get hil _ _) hl3) ?_
        simp [app_set_set hil, hh, scC_lt, fmC_mk]
      · simp [app_set hil, hwr, hw]
        refine xcall_self (by simp) (text_c i _ _ (app_set_get hil _ _) hl3) ?_
        simp [app_set_set hil, hh, scC_lt, fmC_mk]
  by_cases h69 : kind = 69
  · subst h69
    simp [c80]
    refine xcall_self (by simp) (text_c i _ st (app_get hi _) hl) ?_
    simp [app_set hil]
    refine xcall_self (by simp) (num_c i _ (textS st) (app_set_get hil _ _) 4) ?_
    simp [app_set_set hil]
    refine xcall_self (by simp) (signed_c _ 4 _) ?_
    simp [app_set_set hil, hh, readV, readS, scC_lt, fmC_mk]
  by_cases h81 : kind = 81
  · subst h81
    simp [c80]
    refine xcall_self (by simp) (text_c i _ st (app_get hi _) hl) ?_
    simp [app_set hil, hh, readV, readS, scC_lt, fmC_mk]
  have h67 : ¬ kind = 67 := fun h => h678 (.inl h)
  have h68 : ¬ kind = 68 := fun h => h678 (.inr h)
  simp [c80, h80, h66, h67, h68, h69, h81, hh, readV, readS, scC_lt, fmC_mk, set_same hi, hil]
/-- What Decode answers. -/
def noFm : Fm := ⟨0, 0, [], [], [], [], [], [], [], 0⟩
def decF (m : Ms) : Fm × Int :=
  if knownI m.type = 0 then (noFm, 4) else if knownI m.type = 2 then (noFm, 9)
  else if doneB (readS m.type (some m.body)) && whatB (readV m.type (some m.body)) then (readV m.type (some m.body), 0) else (noFm, 4)
theorem wread_c (xs : List UInt8) (hx : xs.length ≤ 140737488355328) (h : List (List AV)) : Contract Try.prog 79 [.sl 1 (bytesE xs) none .no] h (.agg [.box (h.length + 1) 0]) (h ++ [[.box (h.length + 1) 0], scC (some xs)]) [] := by
  refine contract_of k79 mixed (by simp [c79]) fun hh hargs => ?_
  simp [c79]
  refine xcall_self (by simp) (new_c xs hx _) ?_
  simp [hh, scC_lt]
theorem fdecode_c (m : Ms) (hx : m.body.length ≤ 140737488355328) (h : List (List AV)) : Contract Try.prog 31 [.agg (msC m)] h (.tup [.agg (fmC (decF m).1), .v (.int .i64 (decF m).2)]) h [] := by
  refine contract_of k31 mixed (by simp [c31]) fun hh hargs => ?_
  simp [c31]
  refine xcall_self (by simp) (known_c _ _) ?_
  by_cases k0 : knownI m.type = 0
  · simp [k0, hh, decF, noFm, fmC_mk]
  by_cases k2 : knownI m.type = 2
  · simp [k0, k2, hh, decF, noFm, fmC_mk]
  simp [k0, k2]
  refine xcall_self (by simp) (wread_c _ hx _) ?_
  simp
  refine xcall_self (by simp) (freader_c (h.length + 3) _ (some m.body) (by simp) hx _) ?_
  simp
  refine xcall_self (by simp) (done_c (h.length + 3) _ (readS m.type (some m.body)) (by simp)) ?_
  have e : decF m = if doneB (readS m.type (some m.body)) && whatB (readV m.type (some m.body)) then (readV m.type (some m.body), 0) else (noFm, 4) := by unfold decF; rw [if_neg k0, if_neg k2]
  rw [e]
  cases p1 : doneB (readS m.type (some m.body)) with
  | false => simp [hh, noFm, fmC_mk]
  | true =>
  simp
  refine xcall_self (by simp) (frightwhat_c _ _) ?_
  cases p2 : whatB (readV m.type (some m.body)) with
  | false => simp [hh, noFm, fmC_mk]
  | true => simp [hh]
end Go.Proofs.Ytcaimoidnppnbaa.Ax
namespace Go.Proofs.Ytcaimoidnppnbaa.Ax
open Go.RowKit Go By Nm Sc Dg
set_option linter.unusedSimpArgs false
set_option linter.unusedVariables false
set_option maxRecDepth 10000
open He (textL)

theorem rstr_c (xs s : List UInt8) (hl : xs.length + (s.length + 1) ≤ 140737488355328) (h : List (List AV)) : Contract Try.prog 62 [.sl 1 (bytesE xs) none (.own (.arg 0)), .v (.string (strB s))] h (.sl 1 (bytesE (xs ++ He.encT s)) none (.own .res)) h [] := by
  refine contract_of k62 mixed (by simp [c62]) fun hh hargs => ?_
  simp [c62, hh, He.encT]
  omega
theorem putL_eq (xs : List UInt8) (n size : Int) : putL xs n size = xs ++ putL [] n size := by
  unfold putL; split <;> simp
theorem rlist_c (xs : List UInt8) (l : List Int) (size : Int) (hl : (xs ++ listL (numE size) l).length ≤ 140737488351232) (hn : l.length ≤ 140737488355328) (h : List (List AV)) :
    Contract Try.prog 61 [.sl 1 (bytesE xs) none .no, .sl 1 (enc intC l) none .no, .v (.int .i64 size)] h (.sl 1 (bytesE (xs ++ listL (numE size) l)) none (.own .res)) h [] := by
  refine contract_of k61 mixed (by simp [c61]) fun hh hargs => ?_
  rw [List.length_append] at hl
  simp [c61]
  refine xcall_self (by simp) (rput_c xs l.length 2 (by omega) h) ?_
  simp
  have e0 : putL xs l.length 2 = xs ++ (putL [] l.length 2 ++ (l.take 0).flatMap (numE size)) := by rw [putL_eq]; simp
  rw [e0]
  refine xloop_ok (D := Nat) (fun j => ⟨[(1, .sl 1 (enc intC l) none .no), (2, .v (.int .i64 size)), (7, .v (.int .i64 j))], [(0, .sl 1 (bytesE (xs ++ (putL [] l.length 2 ++ (l.take j).flatMap (numE size)))) none (.own (.slot 0)))], h, []⟩) (fun j => j ≤ l.length) (fun j => l.length - j) 0 (by simp) ?_ ?_
  · simp [Leq, hh]
  · intro j hj
    by_cases hlt : j < l.length
    · have hw : IntKind.i64.wrap ((j : Int) + 1) = (j : Int) + 1 := wrap64 (by omega) (by omega)
      obtain ⟨hx, hb⟩ := flat_step (numE size) l (xs.length + (putL [] l.length 2).length) j hlt 140737488351232 (by simp only [listL, List.length_append] at hl; omega)
      simp [hlt, intC, -List.append_assoc]
      refine xcall_of (rput_c (xs ++ (putL [] l.length 2 ++ (l.take j).flatMap (numE size))) l[j] size (by simp only [List.length_append]; omega) h) (by simp) (by simp) ?_
      have e : putL (xs ++ (putL [] l.length 2 ++ (l.take j).flatMap (numE size))) l[j] size = xs ++ (putL [] l.length 2 ++ (l.take (j + 1)).flatMap (numE size)) := by
        rw [putL_eq, hx]; simp [numE]
      rw [e]
      simp [hw]
      refine ⟨j + 1, by omega, by omega, ?_⟩
      simp [Leq, hh]
    · have : j = l.length := by omega
      subst this
      simp [hh, listL]
theorem null_eq : putL [] (-1) 4 = putL [] 4294967295 4 := by decide
theorem rputc_c (xs : List UInt8) (l : List Cl) (hl : (xs ++ listL cellE l).length ≤ 140737488351232) (hn : l.length ≤ 140737488355328) (h : List (List AV)) :
    Contract Try.prog 63 [.sl 1 (bytesE xs) none .no, .sl 2 (enc cellC l) none .no] h (.sl 1 (bytesE (xs ++ listL cellE l)) none (.own .res)) h [] := by
  refine contract_of k63 mixed (by simp [c63]) fun hh hargs => ?_
  rw [List.length_append] at hl
  simp [c63]
  refine xcall_self (by simp) (rput_c xs l.length 2 (by omega) h) ?_
  simp
  have e0 : putL xs l.length 2 = xs ++ (putL [] l.length 2 ++ (l.take 0).flatMap cellE) := by rw [putL_eq]; simp
  rw [e0]
  refine xloop_ok (D := Nat) (fun j => ⟨[(1, .sl 2 (enc cellC l) none .no), (5, .v (.int .i64 j))], [(0, .sl 1 (bytesE (xs ++ (putL [] l.length 2 ++ (l.take j).flatMap cellE))) none (.own (.slot 0)))], h, []⟩) (fun j => j ≤ l.length) (fun j => l.length - j) 0 (by simp) ?_ ?_
  · simp [Leq, hh]
  · intro j hj
    by_cases hlt : j < l.length
    · have hw : IntKind.i64.wrap ((j : Int) + 1) = (j : Int) + 1 := wrap64 (by omega) (by omega)
      obtain ⟨hx, hb⟩ := flat_step cellE l (xs.length + (putL [] l.length 2).length) j hlt 140737488351232 (by simp only [listL, List.length_append] at hl; omega)
      obtain ⟨n, b, hc⟩ : ∃ n b, l[j] = (n, b) := ⟨_, _, rfl⟩
      rw [hc] at hx hb
      cases n with
      | true =>
        rw [cellE_null] at hx hb
        have e : putL (xs ++ (putL [] l.length 2 ++ (l.take j).flatMap cellE)) (-1) 4 = xs ++ (putL [] l.length 2 ++ (l.take (j + 1)).flatMap cellE) := by
          rw [putL_eq, hx, null_eq]; simp
        simp [hlt, hc, cellC_mk, -List.append_assoc]
        refine xcall_of (rput_c (xs ++ (putL [] l.length 2 ++ (l.take j).flatMap cellE)) (-1) 4 (by simp only [List.length_append]; omega) h) (by simp) (by simp) ?_
        rw [e]
        simp [hw]
        refine ⟨j + 1, by omega, by omega, ?_⟩
        simp [Leq, hh]
      | false =>
        rw [cellE_bytes] at hx hb
        have e : putL (xs ++ (putL [] l.length 2 ++ (l.take j).flatMap cellE)) b.length 4 ++ b = xs ++ (putL [] l.length 2 ++ (l.take (j + 1)).flatMap cellE) := by
          rw [putL_eq, hx]; simp
        have e2 : (putL (xs ++ (putL [] l.length 2 ++ (l.take j).flatMap cellE)) b.length 4).length + b.length ≤ 140737488355328 := by
          rw [putL_eq]; simp only [List.length_append] at hb ⊢; omega
        simp [hlt, hc, cellC_mk, -List.append_assoc]
        refine xcall_of (rput_c (xs ++ (putL [] l.length 2 ++ (l.take j).flatMap cellE)) b.length 4 (by simp only [List.length_append]; omega) h) (by simp) (by simp) ?_
        simp [hw, e2, -List.append_assoc]
        refine ⟨j + 1, by omega, by omega, ?_⟩
        rw [← bytesE_append, e]
        simp [Leq, hh]
    · have : j = l.length := by omega
      subst this
      simp [hh, listL]
/-- What the document's Encode answers. -/
def rencF (m : Fm) : Ms × Int := if rcheckF m = 0 then (⟨m.kind, bodyF m⟩, 0) else (⟨0, []⟩, rcheckF m)
theorem textsL_cons (a : List UInt8) (l : List (List UInt8)) : textsL (a :: l) = He.encT a ++ textsL l := rfl
theorem encT_len (a : List UInt8) : (He.encT a).length = a.length + 1 := by simp [He.encT]
theorem rencode_c (m : Fm) (hf : FmFit m) (hw : 0 ≤ m.what ∧ m.what < 256) (h : List (List AV)) (hb : (bodyF m).length ≤ 140737488351232) : Contract Try.prog 24 [.agg (fmC m)] h (.tup [.agg (msC (rencF m).1), .v (.int .i64 (rencF m).2)]) h [] := by
  have hf0 := hf
  obtain ⟨q1, q2, q3, q4, q5, q6, q7, q8⟩ := hf
  refine contract_of k24 mixed (by simp [c24]) fun hh hargs => ?_
  simp [c24]
  refine xcall_self (by simp) (rcheck_c m hf0 _) ?_
  by_cases he : rcheckF m = 0
  · have e0 : rencF m = (⟨m.kind, bodyF m⟩, 0) := if_pos he
    rw [e0]
    by_cases h80 : m.kind = 80
    · have e : bodyF m = (He.encT m.name ++ He.encT m.text) ++ listL (numE 4) m.oids := by unfold bodyF; rw [if_pos h80]; simp [textsL]
      rw [e] at hb ⊢
      simp only [List.length_append, encT_len] at hb
      simp [he, h80, -List.append_assoc]
      refine xcall_of (rstr_c [] m.name (by simp; omega) _) (by simp) (by simp) ?_
      simp
      refine xcall_of (rstr_c (He.encT m.name) m.text (by rw [encT_len]; omega) _) (by simp) (by simp) ?_
      simp
      refine xcall_of (rlist_c (He.encT m.name ++ He.encT m.text) m.oids 4 (by simp only [List.length_append, encT_len]; omega) q1 _) (by simp) (by simp) ?_
      simp [hh, msC_mk, h80]
    by_cases h66 : m.kind = 66
    · have e : bodyF m = (((He.encT m.portal ++ He.encT m.name) ++ listL (numE 2) m.formats) ++ listL cellE m.params) ++ listL (numE 2) m.results := by unfold bodyF; rw [if_neg h80, if_pos h66]; simp [textsL]
      rw [e] at hb ⊢
      simp only [List.length_append, encT_len] at hb
      simp [he, h66, -List.append_assoc]
      refine xcall_of (rstr_c [] m.portal (by simp; omega) _) (by simp) (by simp) ?_
      simp
      refine xcall_of (rstr_c (He.encT m.portal) m.name (by rw [encT_len]; omega) _) (by simp) (by simp) ?_
      simp
      refine xcall_of (rlist_c (He.encT m.portal ++ He.encT m.name) m.formats 2 (by simp only [List.length_append, encT_len]; omega) q2 _) (by simp) (by simp) ?_
      simp
      refine xcall_of (rputc_c ((He.encT m.portal ++ He.encT m.name) ++ listL (numE 2) m.formats) m.params (by simp only [List.length_append, encT_len]; omega) q4 _) (by simp) (by simp) ?_
      simp
      refine xcall_of (rlist_c (((He.encT m.portal ++ He.encT m.name) ++ listL (numE 2) m.formats) ++ listL cellE m.params) m.results 2 (by simp only [List.length_append, encT_len]; omega) q3 _) (by simp) (by simp) ?_
      simp [hh, msC_mk, h66]
    have hw3 : max m.what 0 % 256 = m.what := by omega
    by_cases h678 : m.kind = 67 ∨ m.kind = 68
    · have e : bodyF m = [UInt8.ofNat m.what.toNat] ++ He.encT (m.name ++ m.portal) := by unfold bodyF; rw [if_neg h80, if_neg h66, if_pos h678]; simp [textsL]
      rw [e] at hb ⊢
      simp only [List.length_append, encT_len, List.length_singleton] at hb
      rcases h678 with h67 | h67
      all_goals
        simp [he, h67]
        refine ⟨by omega, ?_⟩
        refine xcall_of (rstr_c [UInt8.ofNat m.what.toNat] (m.name ++ m.portal) (by simp; omega) _) (by simp [hw3]) (by simp) ?_
        simp [hh, msC_mk, h67, hw3]
    have h67 : ¬ m.kind = 67 := fun h => h678 (.inl h)
    have h68 : ¬ m.kind = 68 := fun h => h678 (.inr h)
    by_cases h69 : m.kind = 69
    · have e : bodyF m = putL (He.encT m.portal) m.max 4 := by unfold bodyF; rw [if_neg h80, if_neg h66, if_neg h678, if_pos h69]; simp [textsL]
      rw [e] at hb ⊢
      rw [putL_eq, List.length_append, encT_len] at hb
      simp [he, h69]
      refine xcall_of (rstr_c [] m.portal (by simp; omega) _) (by simp) (by simp) ?_
      simp
      refine xcall_of (rput_c (He.encT m.portal) m.max 4 (by rw [encT_len]; omega) _) (by simp) (by simp) ?_
      simp [hh, msC_mk, h69]
    by_cases h81 : m.kind = 81
    · have e : bodyF m = He.encT m.text := by unfold bodyF; rw [if_neg h80, if_neg h66, if_neg h678, if_neg h69, if_pos h81]; simp [textsL]
      rw [e] at hb ⊢
      rw [encT_len] at hb
      simp [he, h81]
      refine xcall_of (rstr_c [] m.text (by simp; omega) _) (by simp) (by simp) ?_
      simp [hh, msC_mk, h81]
    have e : bodyF m = [] := by unfold bodyF; rw [if_neg h80, if_neg h66, if_neg h678, if_neg h69, if_neg h81]
    rw [e]
    simp [he, h80, h66, h67, h68, h69, h81, hh, msC_mk]
  · simp [he, hh, rencF, msC_mk]
abbrev rnumbersQ (size : Int) (r : Rs) : Rs := listRs (rstep (numS · size)) r
abbrev rcellsQ (r : Rs) : Rs := listRs rcellQ r
abbrev numbersU (size : Int) (st : Sta) : List Int := listU (numV · size) (numS · size) st
/-- What the document reads, and where its scan stands then. -/
def rreadV (kind : Int) (r : Rs) : Fm :=
  if kind = 80 then ⟨80, 0, textL (rabs r), [], textL (textS (rabs r)), numbersU 4 (textS (textS (rabs r))), [], [], [], 0⟩
  else if kind = 66 then ⟨66, 0, textL (textS (rabs r)), textL (rabs r), [], [], numbersU 2 (textS (textS (rabs r))), numbersU 2 (cellsS (numbersS 2 (textS (textS (rabs r))))), listU cellV cellS (numbersS 2 (textS (textS (rabs r)))), 0⟩
  else if kind = 67 ∨ kind = 68 then (if numV (rabs r) 1 = 83 then ⟨kind, numV (rabs r) 1, textL (numS (rabs r) 1), [], [], [], [], [], [], 0⟩ else ⟨kind, numV (rabs r) 1, [], textL (numS (rabs r) 1), [], [], [], [], [], 0⟩)
  else if kind = 69 then ⟨69, 0, [], textL (rabs r), [], [], [], [], [], signedI (numV (textS (rabs r)) 4) 4⟩
  else if kind = 81 then ⟨81, 0, [], [], textL (rabs r), [], [], [], [], 0⟩
  else ⟨kind, 0, [], [], [], [], [], [], [], 0⟩
def rreadQ (kind : Int) (r : Rs) : Rs :=
  if kind = 80 then rnumbersQ 4 (rstep textS (rstep textS r))
  else if kind = 66 then rnumbersQ 2 (rcellsQ (rnumbersQ 2 (rstep textS (rstep textS r))))
  else if kind = 67 ∨ kind = 68 then rstep textS (rstep (numS · 1) r)
  else if kind = 69 then rstep (numS · 4) (rstep textS r)
  else if kind = 81 then rstep textS r
  else r
theorem rnumbers_abs (size : Int) (r : Rs) : rabs (rnumbersQ size r) = numbersS size (rabs r) := listRs_abs (numV · size) (fun r => rabs_step _ r) r
theorem rcells_abs (r : Rs) : rabs (rcellsQ r) = cellsS (rabs r) := listRs_abs cellV rcell_abs r
theorem rread_abs (kind : Int) (r : Rs) : rabs (rreadQ kind r) = readS kind (rabs r) := by
  unfold rreadQ readS
  repeat' split
  all_goals simp only [rnumbers_abs, rcells_abs, rabs_step]
theorem rread_c (i : Nat) (h : List (List AV)) (r : Rs) (hi : h[i]? = some (rsC r)) (hl : He.lenS (rabs r) ≤ 140737488355328) (kind : Int) :
    Contract Try.prog 81 [.box i 0, .v (.int .u8 kind)] h (.agg (fmC (rreadV kind r))) (h.set i (rsC (rreadQ kind r))) [i] := by
  have hil := heap_lt hi
  have hl1 : He.lenS (textS (rabs r)) ≤ 140737488355328 := Nat.le_trans (He.textS_len _) hl
  have hl2 : He.lenS (textS (textS (rabs r))) ≤ 140737488355328 := Nat.le_trans (He.textS_len _) hl1
  refine contract_of k81 mixed (by simp [c81]) fun hh hargs => ?_
  by_cases h80 : kind = 80
  · subst h80
    simp [c81]
    refine xcall_self (by simp) (rtext_c i _ r (app_get hi _) hl) ?_
    simp [app_set hil]
    refine xcall_self (by simp) (rtext_c i _ (rstep textS r) (app_set_get hil _ _) (by rw [rabs_step]; exact hl1)) ?_
    simp [app_set_set hil]
    refine xcall_self (by simp) (nums_c i _ (rstep textS (rstep textS r)) (app_set_get hil _ _) 4) ?_
    simp [app_set_set hil, hh, rreadV, rreadQ, rsC_lt, fmC_mk, rabs_step]
  by_cases h66 : kind = 66
  · subst h66
    simp [c81]
    refine xcall_self (by simp) (rtext_c i _ r (app_get hi _) hl) ?_
    simp [app_set hil]
    refine xcall_self (by simp) (rtext_c i _ (rstep textS r) (app_set_get hil _ _) (by rw [rabs_step]; exact hl1)) ?_
    simp [app_set_set hil]
    refine xcall_self (by simp) (nums_c i _ (rstep textS (rstep textS r)) (app_set_get hil _ _) 2) ?_
    simp [app_set_set hil]
    refine xcall_self (by simp) (row_c i _ (rnumbersQ 2 (rstep textS (rstep textS r))) (app_set_get hil _ _) (by
      rw [rnumbers_abs, rabs_step, rabs_step]
      exact Nat.le_trans (listS_len _ _ (fun st => numS_len st 2) _) hl2)) ?_
    simp [app_set_set hil]
    refine xcall_self (by simp) (nums_c i _ (rcellsQ (rnumbersQ 2 (rstep textS (rstep textS r)))) (app_set_get hil _ _) 2) ?_
    simp [app_set_set hil, hh, rreadV, rreadQ, rsC_lt, fmC_mk, rabs_step, rnumbers_abs, rcells_abs]
  by_cases h678 : kind = 67 ∨ kind = 68
  · have e1 : rreadV kind r = if numV (rabs r) 1 = 83 then ⟨kind, numV (rabs r) 1, textL (numS (rabs r) 1), [], [], [], [], [], [], 0⟩ else ⟨kind, numV (rabs r) 1, [], textL (numS (rabs r) 1), [], [], [], [], [], 0⟩ := by unfold rreadV; rw [if_neg h80, if_neg h66, if_pos h678]
    have e2 : rreadQ kind r = rstep textS (rstep (numS · 1) r) := by unfold rreadQ; rw [if_neg h80, if_neg h66, if_pos h678]
    have hl3 : He.lenS (numS (rabs r) 1) ≤ 140737488355328 := Nat.le_trans (numS_len _ _) hl
    have hwr := wrap_u8 (num1_range (rabs r))
    have hw83 : IntKind.u8.wrap 83 = 83 := wrap_u8 (by omega)
    rw [e1, e2]
    rcases h678 with rfl | rfl
    all_goals
      simp [c81]
      refine xcall_self (by simp) (rnum_c i _ r (app_get hi _) 1) ?_
      by_cases hw : numV (rabs r) 1 = 83
      · simp [app_set hil, hwr, hw, hw83]
        refine xcall_self (by simp) (rtext_c i _ (rstep (numS · 1) r) (app_set_get hil _ _) (by rw [rabs_step]; exact hl3)) ?_
        simp [app_set_set hil, hh, rsC_lt, fmC_mk, rabs_step]
      · simp [app_set hil, hwr, hw]
        refine xcall_self (by simp) (rtext_c i _ (rstep (numS · 1) r) (app_set_get hil _ _) (by rw [rabs_step]; exact hl3)) ?_
        simp [app_set_set hil, hh, rsC_lt, fmC_mk, rabs_step]
  by_cases h69 : kind = 69
  · subst h69
    simp [c81]
    refine xcall_self (by simp) (rtext_c i _ r (app_get hi _) hl) ?_
    simp [app_set hil]
    refine xcall_self (by simp) (rnum_c i _ (rstep textS r) (app_set_get hil _ _) 4) ?_
    simp [app_set_set hil]
    refine xcall_self (by simp) (rsigned_c _ 4 _) ?_
    simp [app_set_set hil, hh, rreadV, rreadQ, rsC_lt, fmC_mk, rabs_step]
  by_cases h81 : kind = 81
  · subst h81
    simp [c81]
    refine xcall_self (by simp) (rtext_c i _ r (app_get hi _) hl) ?_
    simp [app_set hil, hh, rreadV, rreadQ, rsC_lt, fmC_mk]
  have h67 : ¬ kind = 67 := fun h => h678 (.inl h)
  have h68 : ¬ kind = 68 := fun h => h678 (.inr h)
  simp [c81, h80, h66, h67, h68, h69, h81, hh, rreadV, rreadQ, rsC_lt, fmC_mk, set_same hi, hil]
def rdecF (m : Ms) : Fm × Int :=
  if knownI m.type = 2 then (noFm, 9) else if knownI m.type = 0 then (noFm, 4)
  else if doneB (readS m.type (some m.body)) && rcheckF (rreadV m.type (m.body, false)) == 0 then (rreadV m.type (m.body, false), 0) else (noFm, 4)
theorem rdecode_c (m : Ms) (hx : m.body.length ≤ 140737488355328) (hfit : FmFit (rreadV m.type (m.body, false))) (h : List (List AV)) : Contract Try.prog 32 [.agg (msC m)] h (.tup [.agg (fmC (rdecF m).1), .v (.int .i64 (rdecF m).2)]) h [] := by
  refine contract_of k32 mixed (by simp [c32]) fun hh hargs => ?_
  simp [c32]
  refine xcall_self (by simp) (rknown_c _ _) ?_
  by_cases k2 : knownI m.type = 2
  · simp [k2, hh, rdecF, noFm, fmC_mk]
  by_cases k0 : knownI m.type = 0
  · simp [k0, hh, rdecF, noFm, fmC_mk]
  simp [k0, k2]
  refine xcall_self (by simp) (rnew_c _ hx _) ?_
  simp
  refine xcall_self (by simp) (rread_c (h.length + 2) _ (m.body, false) (by simp) hx _) ?_
  simp
  refine xcall_self (by simp) (rdone_c (h.length + 2) _ (rreadQ m.type (m.body, false)) (by simp)) ?_
  have e : rdecF m = if doneB (readS m.type (some m.body)) && rcheckF (rreadV m.type (m.body, false)) == 0 then (rreadV m.type (m.body, false), 0) else (noFm, 4) := by unfold rdecF; rw [if_neg k2, if_neg k0]
  rw [e, rread_abs, rabs_false]
  cases p1 : doneB (readS m.type (some m.body)) with
  | false => simp [hh, noFm, fmC_mk]
  | true =>
  simp
  refine xcall_self (by simp) (rcheck_c _ hfit _) ?_
  by_cases p2 : rcheckF (rreadV m.type (m.body, false)) = 0
  · simp [hh, p2]
  · simp [hh, p2, noFm, fmC_mk]
end Go.Proofs.Ytcaimoidnppnbaa.Ax
