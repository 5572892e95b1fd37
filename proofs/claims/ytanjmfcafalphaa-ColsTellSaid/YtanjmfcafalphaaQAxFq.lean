/- The document's messages of front as bytes and out of bytes, over values without memory. -/
import Derived.Test.YtanjmfcafalphaaQAxXr
import Derived.Test.YtanjmfcafalphaaRows
import Derived.Test.YtanjmfcafalphaaQAxWo
import Derived.Test.YtanjmfcafalphaaQAxPl
/- The texts of functions over values without memory, as the kernel reckons them out of the program. -/
namespace Go.Proofs.Ytanjmfcafalphaa.Ax
open Go.RowKit Go By

end Go.Proofs.Ytanjmfcafalphaa.Ax
/- Front's messages over values without memory: which kinds are served, checks, what is the same. -/
namespace Go.Proofs.Ytanjmfcafalphaa.Ax
open Go.RowKit Go By Nm Sc Dg
set_option linter.unusedSimpArgs false
set_option linter.unusedVariables false
set_option maxRecDepth 10000

/-! ### Which kinds are served -/
def knownI (k : Int) : Int :=
  if k = 66 ∨ k = 67 ∨ k = 68 ∨ k = 69 ∨ k = 72 ∨ k = 80 ∨ k = 81 ∨ k = 83 ∨ k = 88 then 1 else if k = 70 ∨ k = 99 ∨ k = 100 ∨ k = 102 ∨ k = 112 then 2 else 0
/-! ### A message -/
/-- Its lists, and what they hold, are no longer than memory is. -/
def FmFit (m : Fm) : Prop := m.oids.length ≤ 140737488355328 ∧ m.formats.length ≤ 140737488355328 ∧ m.results.length ≤ 140737488355328 ∧ m.params.length ≤ 140737488355328 ∧ (∀ c ∈ m.params, c.2.length ≤ 140737488355328) ∧ m.name.length ≤ 140737488355328 ∧ m.portal.length ≤ 140737488355328 ∧ m.text.length ≤ 140737488355328

def sameF (a b : Fm) : Bool := a.kind == b.kind && a.what == b.what && (a.name == b.name && a.portal == b.portal && a.text == b.text) && a.max == b.max && a.oids == b.oids && a.formats == b.formats && a.results == b.results && a.params == b.params
theorem sameF_eq (a b : Fm) : sameF a b = decide (a = b) := by
  obtain ⟨a1, a2, a3, a4, a5, a6, a7, a8, a9, a10⟩ := a
  obtain ⟨b1, b2, b3, b4, b5, b6, b7, b8, b9, b10⟩ := b
  rw [Bool.eq_iff_iff]
  simp [sameF]
  constructor
  · rintro ⟨⟨⟨⟨⟨⟨⟨h1, h2⟩, h3, h4, h5⟩, h6⟩, h7⟩, h8⟩, h9⟩, h10⟩; simp_all
  · rintro ⟨h1, h2, h3, h4, h5, h6, h7, h8, h9, h10⟩; simp_all
theorem sliceseq_c (l m : List Int) (hl : l.length ≤ 140737488355328) (h : List (List AV)) : Contract Try.prog 51 [.sl 1 (enc intC l) none .no, .sl 1 (enc intC m) none .no] h (.v (.bool (l == m))) h [] := by
  have := equal1_any mixed k51 l m h hl
  rwa [eqL_beq] at this
/-! ### Checks -/
def whatB (m : Fm) : Bool := (!(m.kind == 67) && !(m.kind == 68)) || m.what == 83 || m.what == 80
def listsB (m : Fm) : Bool := (decide (m.oids.length ≤ 65535) && (decide (m.formats.length ≤ 65535) && (decide (m.results.length ≤ 65535) && decide (m.params.length ≤ 65535)))) && (m.oids.all (unsB 4) && (m.formats.all (unsB 2) && (m.results.all (unsB 2) && m.params.all cellB)))
/-- With those fields alone that the body has. -/
def saidF (m : Fm) : Fm :=
  if m.kind = 80 then ⟨80, 0, m.name, [], m.text, m.oids, [], [], [], 0⟩
  else if m.kind = 66 then ⟨66, 0, m.name, m.portal, [], [], m.formats, m.results, m.params, 0⟩
  else if m.kind = 67 ∨ m.kind = 68 then (if m.what = 83 then ⟨m.kind, m.what, m.name, [], [], [], [], [], [], 0⟩ else ⟨m.kind, m.what, [], m.portal, [], [], [], [], [], 0⟩)
  else if m.kind = 69 then ⟨69, 0, [], m.portal, [], [], [], [], [], m.max⟩
  else if m.kind = 81 then ⟨81, 0, [], [], m.text, [], [], [], [], 0⟩
  else ⟨m.kind, 0, [], [], [], [], [], [], [], 0⟩
/-- What is wrong with a message. -/
def cleanF (m : Fm) : Bool := cleanB m.name && (cleanB m.portal && cleanB m.text)
def checkF (m : Fm) : Int :=
  if ¬ knownI m.kind = 1 then 9
  else if whatB m && (listsB m && (cleanF m && (sgnB 4 m.max && sameF m (saidF m)))) then 0 else 1
theorem fmfit_said {m : Fm} (h : FmFit m) : FmFit (saidF m) := by
  obtain ⟨h1, h2, h3, h4, h5, h6, h7, h8⟩ := h
  unfold saidF FmFit
  repeat' split
  all_goals simp [h1, h2, h3, h4, h6, h7, h8]
  all_goals exact ⟨fun b hc => h5 (_, b) hc, fun b hc => h5 (_, b) hc⟩
end Go.Proofs.Ytanjmfcafalphaa.Ax
/- The document's answers for front, over values without memory: checks, what is the same. -/
namespace Go.Proofs.Ytanjmfcafalphaa.Ax
open Go.RowKit Go By Nm Sc Dg
set_option linter.unusedSimpArgs false
set_option linter.unusedVariables false
set_option maxRecDepth 10000

theorem rints_c (xs ys : List Int) (hl : xs.length ≤ 140737488355328) (h : List (List AV)) : Contract Try.prog 21 [.sl 1 (enc intC xs) none .no, .sl 1 (enc intC ys) none .no] h (.v (.bool (xs == ys))) h [] := by
  refine contract_of k21 mixed (by simp [c21]) fun hh hargs => ?_
  rw [← eqL_beq]
  by_cases hlen : xs.length = ys.length
  · simp [c21, hlen]
    refine xloop_ok (D := Nat) (fun j => ⟨[(0, .sl 1 (enc intC xs) none .no), (1, .sl 1 (enc intC ys) none .no), (5, .v (.int .i64 j))], [], h, []⟩) (fun j => j ≤ xs.length ∧ ∀ i (h1 : i < xs.length) (h2 : i < ys.length), i < j → ((· == ·) : Int → Int → Bool) xs[i] ys[i] = true) (fun j => xs.length - j) 0 ⟨by omega, fun i h1 h2 h3 => by omega⟩ ?_ ?_
    · simp [Leq, hh]
    · rintro j ⟨hj, hp⟩
      by_cases hlt : j < ys.length
      · have hlt' : j < xs.length := by omega
        have hw : IntKind.i64.wrap ((j : Int) + 1) = (j : Int) + 1 := wrap64 (by omega) (by omega)
        simp [hlt, hlt', intC]
        refine xwp_cond_of (xs[j] != ys[j]) (by simp) (fun ht => ?_) (fun hf' => ?_)
        · simp at ht
          have : eqL (· == ·) xs ys = false := eqL_no (i := j) hlt' hlt (by simpa using ht)
          simp [hh, this]
        · simp at hf'
          simp [hw]
          refine ⟨j + 1, ⟨by omega, fun i h1 h2 h3 => ?_⟩, by omega, ?_⟩
          · rcases Nat.lt_or_ge i j with h4 | h4
            · simpa using hp i h1 h2 h4
            · have : i = j := by omega
              subst this; simpa using hf'
          · simp [Leq, hh]
      · have hx : eqL (· == ·) xs ys = true := (eqL_iff _ xs ys).2 ⟨hlen, fun i h1 h2 => hp i h1 h2 (by omega)⟩
        have hlt' : ¬ j < xs.length := by omega
        simp [hh, hx, hlt, hlt']
  · have hne : (xs.length : Int) ≠ ys.length := by omega
    have hx : eqL (· == ·) xs ys = false := eqL_len hlen
    simp [c21, hne, hh, hx]
theorem rcells_c (xs ys : List Cl) (hl : xs.length ≤ 140737488355328) (h : List (List AV)) : Contract Try.prog 8 [.sl 2 (enc cellC xs) none .no, .sl 2 (enc cellC ys) none .no] h (.v (.bool (xs == ys))) h [] := by
  refine contract_of k8 mixed (by simp [c8]) fun hh hargs => ?_
  rw [← eqL_beq]
  by_cases hlen : xs.length = ys.length
  · simp [c8, hlen]
    refine xloop_ok (D := Nat) (fun j => ⟨[(0, .sl 2 (enc cellC xs) none .no), (1, .sl 2 (enc cellC ys) none .no), (5, .v (.int .i64 j))], [], h, []⟩) (fun j => j ≤ xs.length ∧ ∀ i (h1 : i < xs.length) (h2 : i < ys.length), i < j → ((· == ·) : Cl → Cl → Bool) xs[i] ys[i] = true) (fun j => xs.length - j) 0 ⟨by omega, fun i h1 h2 h3 => by omega⟩ ?_ ?_
    · simp [Leq, hh]
    · rintro j ⟨hj, hp⟩
      by_cases hlt : j < ys.length
      · have hlt' : j < xs.length := by omega
        have hw : IntKind.i64.wrap ((j : Int) + 1) = (j : Int) + 1 := wrap64 (by omega) (by omega)
        obtain ⟨n, b, hx⟩ : ∃ n b, xs[j] = (n, b) := ⟨_, _, rfl⟩
        obtain ⟨m, d, hy⟩ : ∃ m d, ys[j] = (m, d) := ⟨_, _, rfl⟩
        have next : xs[j] = ys[j] → ∀ i (h1 : i < xs.length) (h2 : i < ys.length), i < j + 1 → ((· == ·) : Cl → Cl → Bool) xs[i] ys[i] = true := fun he i h1 h2 h3 => by
          rcases Nat.lt_or_ge i j with h4 | h4
          · exact hp i h1 h2 h4
          · have : i = j := by omega
            subst this; simp [he]
        have no : xs[j] ≠ ys[j] → eqL (· == ·) xs ys = false := fun he => eqL_no (i := j) hlt' hlt (by simpa using he)
        rw [hx, hy] at next no
        cases hnm : n == m with
        | false =>
          have e := no (by rintro he; injection he with h1 h2; simp [h1] at hnm)
          simp [hlt, hlt', hx, hy, cellC_mk, hnm, hh, e]
        | true =>
          have hnm' : n = m := by simpa using hnm
          cases hbd : b == d with
          | false =>
            have e := no (by rintro he; injection he with h1 h2; simp [h2] at hbd)
            simp [hlt, hlt', hx, hy, cellC_mk, hnm, hbd, hh, e]
          | true =>
            have hbd' : b = d := by simpa using hbd
            have e := next (by rw [hnm', hbd'])
            simp [hlt, hlt', hx, hy, cellC_mk, hnm, hbd, hw]
            refine ⟨j + 1, ⟨by omega, fun i h1 h2 h3 => by simpa using e i h1 h2 h3⟩, by omega, ?_⟩
            simp [Leq, hh]
      · have hx : eqL (· == ·) xs ys = true := (eqL_iff _ xs ys).2 ⟨hlen, fun i h1 h2 => hp i h1 h2 (by omega)⟩
        have hlt' : ¬ j < xs.length := by omega
        simp [hh, hx, hlt, hlt']
  · have hne : (xs.length : Int) ≠ ys.length := by omega
    have hx : eqL (· == ·) xs ys = false := eqL_len hlen
    simp [c8, hne, hh, hx]
def betB (lo hi z : Int) : Bool := !decide (z < lo) && !decide (hi < z)
theorem take_all {α : Type} {p : α → Bool} {xs : List α} {j : Nat} (hj : j < xs.length) (h1 : ∀ x ∈ xs.take j, p x = true) (h2 : p xs[j] = true) : ∀ x ∈ xs.take (j + 1), p x = true := by
  rw [take_next hj]
  intro x hx
  rcases List.mem_append.1 hx with h | h
  · exact h1 x h
  · simp at h; subst h; exact h2
theorem all_no {α : Type} {p : α → Bool} {xs : List α} {j : Nat} (hj : j < xs.length) (h2 : p xs[j] = false) : xs.all p = false := by
  rw [List.all_eq_false]; exact ⟨_, List.getElem_mem hj, by simp [h2]⟩
/-- Whether that one speaks of something, as the document says it. -/
def rwhatB (m : Fm) : Bool := if m.kind = 67 ∨ m.kind = 68 then m.what == 83 || m.what == 80 else m.what == 0 || (m.what == 83 || m.what == 80)
def rlistsB (m : Fm) : Bool := (decide (m.oids.length ≤ 65535) && m.oids.all (betB 0 4294967295)) && ((decide (m.formats.length ≤ 65535) && m.formats.all (betB 0 65535)) && ((decide (m.results.length ≤ 65535) && m.results.all (betB 0 65535)) && (decide (m.params.length ≤ 65535) && m.params.all cellB)))
def rcheckF (m : Fm) : Int :=
  if ¬ knownI m.kind = 1 then 9
  else if cleanF m && (rlistsB m && (rwhatB m && (betB (-2147483648) 2147483647 m.max && sameF m (saidF m)))) then 0 else 1
end Go.Proofs.Ytanjmfcafalphaa.Ax
/- Front's messages as bytes, over values without memory: both sides. -/
namespace Go.Proofs.Ytanjmfcafalphaa.Ax
open Go.RowKit Go By Nm Sc Dg
set_option linter.unusedSimpArgs false
set_option linter.unusedVariables false
set_option maxRecDepth 10000

/-! ### slices.Concat -/
def bytC (b : List UInt8) : List AV := [.sl 1 (bytesE b) none .no]
@[simp] theorem ltLL_bytC (n : Nat) (l : List (List UInt8)) : ltLL n (enc bytC l) := ltLL_enc bytC n (fun _ => by simp [bytC]) l
/-- Lists of bytes, one behind the other. -/
def catL (l : List (List UInt8)) : List UInt8 := l.flatMap id
theorem catL_step (l : List (List UInt8)) (a j : Nat) (hj : j < l.length) (N : Nat) (hN : a + (catL l).length ≤ N) : catL (l.take (j + 1)) = catL (l.take j) ++ l[j] ∧ a + ((catL (l.take j)).length + l[j].length) ≤ N := flat_step id l a j hj N hN
@[simp] theorem catL_nil : catL [] = [] := of_eq_true (eq_self _)
/-! ### A body -/
def bodyF (m : Fm) : List UInt8 :=
  if m.kind = 80 then textsL [m.name, m.text] ++ listL (numE 4) m.oids
  else if m.kind = 66 then textsL [m.portal, m.name] ++ (listL (numE 2) m.formats ++ (listL cellE m.params ++ listL (numE 2) m.results))
  else if m.kind = 67 ∨ m.kind = 68 then UInt8.ofNat m.what.toNat :: textsL [m.name ++ m.portal]
  else if m.kind = 69 then putL (textsL [m.portal]) m.max 4
  else if m.kind = 81 then textsL [m.text]
  else []
/-- What Encode answers. -/
def encF (m : Fm) : Ms × Int := if checkF m = 0 then (⟨m.kind, bodyF m⟩, 0) else (⟨0, []⟩, checkF m)
end Go.Proofs.Ytanjmfcafalphaa.Ax
/- Front's messages out of bytes, over values without memory: both sides. -/
namespace Go.Proofs.Ytanjmfcafalphaa.Ax
open Go.RowKit Go By Nm Sc Dg
set_option linter.unusedSimpArgs false
set_option linter.unusedVariables false
set_option maxRecDepth 10000

abbrev numbersV (size : Int) (st : Sta) : List Int := listV (numV · size) (numS · size) st
abbrev numbersS (size : Int) (st : Sta) : Sta := listS (numV · size) (numS · size) st
abbrev cellsV (st : Sta) : List Cl := listV cellV cellS st
abbrev cellsS (st : Sta) : Sta := listS cellV cellS st
open He (textL)
theorem listS_len {α : Type} (v : Sta → α) (s : Sta → Sta) (hs : ∀ st, He.lenS (s st) ≤ He.lenS st) (st : Sta) : He.lenS (listS v s st) ≤ He.lenS st := by
  unfold listS
  exact Nat.le_trans (readR_lenS v s hs _ _) (numS_len _ _)
/-- What a body says, and what is left of it. -/
def readV (kind : Int) (st : Sta) : Fm :=
  if kind = 80 then ⟨80, 0, textL st, [], textL (textS st), numbersV 4 (textS (textS st)), [], [], [], 0⟩
  else if kind = 66 then ⟨66, 0, textL (textS st), textL st, [], [], numbersV 2 (textS (textS st)), numbersV 2 (cellsS (numbersS 2 (textS (textS st)))), cellsV (numbersS 2 (textS (textS st))), 0⟩
  else if kind = 67 ∨ kind = 68 then (if numV st 1 = 83 then ⟨kind, numV st 1, textL (numS st 1), [], [], [], [], [], [], 0⟩ else ⟨kind, numV st 1, [], textL (numS st 1), [], [], [], [], [], 0⟩)
  else if kind = 69 then ⟨69, 0, [], textL st, [], [], [], [], [], signedI (numV (textS st) 4) 4⟩
  else if kind = 81 then ⟨81, 0, [], [], textL st, [], [], [], [], 0⟩
  else ⟨kind, 0, [], [], [], [], [], [], [], 0⟩
def readS (kind : Int) (st : Sta) : Sta :=
  if kind = 80 then numbersS 4 (textS (textS st))
  else if kind = 66 then numbersS 2 (cellsS (numbersS 2 (textS (textS st))))
  else if kind = 67 ∨ kind = 68 then textS (numS st 1)
  else if kind = 69 then numS (textS st) 4
  else if kind = 81 then textS st
  else st
theorem num1_range (st : Sta) : 0 ≤ numV st 1 ∧ numV st 1 < 256 := by
  unfold numV
  split
  · split
    · exact ⟨(getI_range _ 0 1 (by omega)).1, by have := (getI_range (by assumption) 0 1 (by omega)).2; simpa using this⟩
    · omega
  · omega
theorem wrap_u8 {n : Int} (h : 0 ≤ n ∧ n < 256) : IntKind.u8.wrap n = n := by
  simp only [IntKind.wrap]
  simp [IntKind.bits, IntKind.signed]
  omega
/-- What Decode answers. -/
def noFm : Fm := ⟨0, 0, [], [], [], [], [], [], [], 0⟩
def decF (m : Ms) : Fm × Int :=
  if knownI m.type = 0 then (noFm, 4) else if knownI m.type = 2 then (noFm, 9)
  else if doneB (readS m.type (some m.body)) && whatB (readV m.type (some m.body)) then (readV m.type (some m.body), 0) else (noFm, 4)
end Go.Proofs.Ytanjmfcafalphaa.Ax
namespace Go.Proofs.Ytanjmfcafalphaa.Ax
open Go.RowKit Go By Nm Sc Dg
set_option linter.unusedSimpArgs false
set_option linter.unusedVariables false
set_option maxRecDepth 10000
open He (textL)

theorem putL_eq (xs : List UInt8) (n size : Int) : putL xs n size = xs ++ putL [] n size := by
  unfold putL; split <;> simp
theorem null_eq : putL [] (-1) 4 = putL [] 4294967295 4 := by decide
/-- What the document's Encode answers. -/
def rencF (m : Fm) : Ms × Int := if rcheckF m = 0 then (⟨m.kind, bodyF m⟩, 0) else (⟨0, []⟩, rcheckF m)
theorem textsL_cons (a : List UInt8) (l : List (List UInt8)) : textsL (a :: l) = He.encT a ++ textsL l := rfl
theorem encT_len (a : List UInt8) : (He.encT a).length = a.length + 1 := by simp [He.encT]
abbrev rnumbersQ (size : Int) (r : Rs) : Rs := listRs (rstep (numS · size)) r
abbrev rcellsQ (r : Rs) : Rs := listRs rcellQ r
abbrev numbersU (size : Int) (st : Sta) : List Int := listU (numV · size) (numS · size) st
/-- What the document reads, and where its scan stands then. -/
def rreadV (kind : Int) (r : Rs) : Fm :=
  if kind = 80 then ⟨80, 0, textL (rabs r), [], textL (textS (rabs r)), numbersU 4 (textS (textS (rabs r))), [], [], [], 0⟩
  else if kind = 66 then ⟨66, 0, textL (textS (rabs r)), textL (rabs r), [], [], numbersU 2 (textS (textS (rabs r))), numbersU 2 (cellsS (numbersS 2 (textS (textS (rabs r))))), listU cellV cellS (numbersS 2 (textS (textS (rabs r)))), 0⟩
  else if kind = 67 ∨ kind = 68 then (if numV (rabs r) 1 = 83 then ⟨kind, numV (rabs r) 1, textL (numS (rabs r) 1), [], [], [], [], [], [], 0⟩ else ⟨kind, numV (rabs r) 1, [], textL (numS (rabs r) 1), [], [], [], [], [], 0⟩)
  else if kind = 69 then ⟨69, 0, [], textL (rabs r), [], [], [], [], [], signedI (numV (textS (rabs r)) 4) 4⟩
  else if kind = 81 then ⟨81, 0, [], [], textL (rabs r), [], [], [], [], 0⟩
  else ⟨kind, 0, [], [], [], [], [], [], [], 0⟩
def rreadQ (kind : Int) (r : Rs) : Rs :=
  if kind = 80 then rnumbersQ 4 (rstep textS (rstep textS r))
  else if kind = 66 then rnumbersQ 2 (rcellsQ (rnumbersQ 2 (rstep textS (rstep textS r))))
  else if kind = 67 ∨ kind = 68 then rstep textS (rstep (numS · 1) r)
  else if kind = 69 then rstep (numS · 4) (rstep textS r)
  else if kind = 81 then rstep textS r
  else r
theorem rnumbers_abs (size : Int) (r : Rs) : rabs (rnumbersQ size r) = numbersS size (rabs r) := listRs_abs (numV · size) (fun r => rabs_step _ r) r
theorem rcells_abs (r : Rs) : rabs (rcellsQ r) = cellsS (rabs r) := listRs_abs cellV rcell_abs r
theorem rread_abs (kind : Int) (r : Rs) : rabs (rreadQ kind r) = readS kind (rabs r) := by
  unfold rreadQ readS
  repeat' split
  all_goals simp only [rnumbers_abs, rcells_abs, rabs_step]
def rdecF (m : Ms) : Fm × Int :=
  if knownI m.type = 2 then (noFm, 9) else if knownI m.type = 0 then (noFm, 4)
  else if doneB (readS m.type (some m.body)) && rcheckF (rreadV m.type (m.body, false)) == 0 then (rreadV m.type (m.body, false), 0) else (noFm, 4)
end Go.Proofs.Ytanjmfcafalphaa.Ax
