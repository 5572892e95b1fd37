/- The document's messages of front as bytes and out of bytes, over values without memory. -/
import Derived.Test.YtdfocmmajngelaaQAxWo
import Derived.Test.YtdfocmmajngelaaQAxSc
import Derived.Test.YtdfocmmajngelaaQAxFr
import Derived.Test.YtdfocmmajngelaaQAxFp
/- The contracts of what package wire reads, and of what the document reads, over values without memory. -/
namespace Go.Proofs.Ytdfocmmajngelaa.Ax
open Go.RowKit Go By Ytdfocmmajngelaa.Nm Sc Dg
set_option linter.unusedSimpArgs false
set_option linter.unusedVariables false
set_option maxRecDepth 10000

/-- What is read again and again: v is read where a scan stands, and leads to s. -/
def readR {α : Type} (v : Sta → α) (s : Sta → Sta) : Nat → Sta → List α × Sta
  | 0, st => ([], st)
  | k + 1, st => (v st :: (readR v s k (s st)).1, (readR v s k (s st)).2)
section
variable {α : Type} (v : Sta → α) (s : Sta → Sta)
end
/-- A list that is read: how many, and each; none, if anything could not be had. -/
def listV {α : Type} (v : Sta → α) (s : Sta → Sta) (st : Sta) : List α :=
  if (readR v s (numV st 2).toNat (numS st 2)).2 = none then [] else (readR v s (numV st 2).toNat (numS st 2)).1
def listS {α : Type} (v : Sta → α) (s : Sta → Sta) (st : Sta) : Sta := (readR v s (numV st 2).toNat (numS st 2)).2
/-- A cell that is read. -/
def cellV (st : Sta) : Cl := if numV st 4 = 4294967295 then (true, []) else (false, takeL (numS st 4) (numV st 4))
def cellS (st : Sta) : Sta := if numV st 4 = 4294967295 then numS st 4 else takeS (numS st 4) (numV st 4)
/-! ### The document's -/
/-- What is read as long as all could be had. -/
def readU {α : Type} (v : Sta → α) (s : Sta → Sta) : Nat → Sta → List α
  | 0, _ => []
  | k + 1, st => if st = none then [] else v st :: readU v s k (s st)
/-- A list that the document reads. -/
def listU {α : Type} (v : Sta → α) (s : Sta → Sta) (st : Sta) : List α := readU v s (numV st 2).toNat (numS st 2)
/-- The document's scan goes on so, again and again. -/
def rsN (q : Rs → Rs) : Nat → Rs → Rs
  | 0, r => r
  | k + 1, r => rsN q k (q r)
def listRs (q : Rs → Rs) (r : Rs) : Rs := rsN q (numV (rabs r) 2).toNat (rstep (numS · 2) r)
section
variable {α : Type} (v : Sta → α) (s : Sta → Sta) (q : Rs → Rs) (hq : ∀ r, rabs (q r) = s (rabs r)) (hb : ∀ r, rabs r = none → q r = r) (r : Rs) (n : Nat) (hn : numV (rabs r) 2 = n)
include hq hn
end
/-- The document's scan behind a cell. -/
def rcellQ (r : Rs) : Rs := if numV (rabs r) 4 = 4294967295 then rstep (numS · 4) r else rstep (takeS · (numV (rabs r) 4)) (rstep (numS · 4) r)
end Go.Proofs.Ytdfocmmajngelaa.Ax
/- Front's messages as bytes, over values without memory: both sides. -/
namespace Go.Proofs.Ytdfocmmajngelaa.Ax
open Go.RowKit Go By Ytdfocmmajngelaa.Nm Sc Dg
set_option linter.unusedSimpArgs false
set_option linter.unusedVariables false
set_option maxRecDepth 10000

/-! ### slices.Concat -/
/-- Lists of bytes, one behind the other. -/
def catL (l : List (List UInt8)) : List UInt8 := l.flatMap id
@[simp] theorem catL_nil : catL [] = [] := of_eq_true (eq_self _)
/-! ### A body -/
def bodyF (m : Fm) : List UInt8 :=
  if m.kind = 80 then textsL [m.name, m.text] ++ listL (numE 4) m.oids
  else if m.kind = 66 then textsL [m.portal, m.name] ++ (listL (numE 2) m.formats ++ (listL cellE m.params ++ listL (numE 2) m.results))
  else if m.kind = 67 ∨ m.kind = 68 then UInt8.ofNat m.what.toNat :: textsL [m.name ++ m.portal]
  else if m.kind = 69 then putL (textsL [m.portal]) m.max 4
  else if m.kind = 81 then textsL [m.text]
  else []
end Go.Proofs.Ytdfocmmajngelaa.Ax
/- Front's messages out of bytes, over values without memory: both sides. -/
namespace Go.Proofs.Ytdfocmmajngelaa.Ax
open Go.RowKit Go By Ytdfocmmajngelaa.Nm Sc Dg
set_option linter.unusedSimpArgs false
set_option linter.unusedVariables false
set_option maxRecDepth 10000

abbrev numbersV (size : Int) (st : Sta) : List Int := listV (numV · size) (numS · size) st
abbrev numbersS (size : Int) (st : Sta) : Sta := listS (numV · size) (numS · size) st
abbrev cellsV (st : Sta) : List Cl := listV cellV cellS st
abbrev cellsS (st : Sta) : Sta := listS cellV cellS st
open He (textL)
end Go.Proofs.Ytdfocmmajngelaa.Ax
namespace Go.Proofs.Ytdfocmmajngelaa.Ax
open Go.RowKit Go By Ytdfocmmajngelaa.Nm Sc Dg
set_option linter.unusedSimpArgs false
set_option linter.unusedVariables false
set_option maxRecDepth 10000
open He (textL)

theorem rstr_c (xs s : List UInt8) (hl : xs.length + (s.length + 1) ≤ 140737488355328) (h : List (List AV)) : Contract Try.prog 53 [.sl 1 (bytesE xs) none (.own (.arg 0)), .v (.string (strB s))] h (.sl 1 (bytesE (xs ++ He.encT s)) none (.own .res)) h [] := by
  refine contract_of k53 mixed (by simp [c53]) fun hh hargs => ?_
  simp [c53, hh, He.encT]
  omega
theorem putL_eq (xs : List UInt8) (n size : Int) : putL xs n size = xs ++ putL [] n size := by
  unfold putL; split <;> simp
theorem rlist_c (xs : List UInt8) (l : List Int) (size : Int) (hl : (xs ++ listL (numE size) l).length ≤ 140737488351232) (hn : l.length ≤ 140737488355328) (h : List (List AV)) :
    Contract Try.prog 52 [.sl 1 (bytesE xs) none .no, .sl 1 (enc intC l) none .no, .v (.int .i64 size)] h (.sl 1 (bytesE (xs ++ listL (numE size) l)) none (.own .res)) h [] := by
  refine contract_of k52 mixed (by simp [c52]) fun hh hargs => ?_
  rw [List.length_append] at hl
  simp [c52]
  refine xcall_self (by simp) (rput_c xs l.length 2 (by omega) h) ?_
  simp
  have e0 : putL xs l.length 2 = xs ++ (putL [] l.length 2 ++ (l.take 0).flatMap (numE size)) := by rw [putL_eq]; simp
  rw [e0]
  refine xloop_ok (D := Nat) (fun j => ⟨[(1, .sl 1 (enc intC l) none .no), (2, .v (.int .i64 size)), (7, .v (.int .i64 j))], [(0, .sl 1 (bytesE (xs ++ (putL [] l.length 2 ++ (l.take j).flatMap (numE size)))) none (.own (.slot 0)))], h, []⟩) (fun j => j ≤ l.length) (fun j => l.length - j) 0 (by simp) ?_ ?_
  · simp [Leq, hh]
  · intro j hj
    by_cases hlt : j < l.length
    · have hw : IntKind.i64.wrap ((j : Int) + 1) = (j : Int) + 1 := wrap64 (by omega) (by omega)
      obtain ⟨hx, hb⟩ := flat_step (numE size) l (xs.length + (putL [] l.length 2).length) j hlt 140737488351232 (by simp only [listL, List.length_append] at hl; omega)
      simp [hlt, intC, -List.append_assoc]
      refine xcall_of (rput_c (xs ++ (putL [] l.length 2 ++ (l.take j).flatMap (numE size))) l[j] size (by simp only [List.length_append]; omega) h) (by simp) (by simp) ?_
      have e : putL (xs ++ (putL [] l.length 2 ++ (l.take j).flatMap (numE size))) l[j] size = xs ++ (putL [] l.length 2 ++ (l.take (j + 1)).flatMap (numE size)) := by
        rw [putL_eq, hx]; simp [numE]
      rw [e]
      simp [hw]
      refine ⟨j + 1, by omega, by omega, ?_⟩
      simp [Leq, hh]
    · have : j = l.length := by omega
      subst this
      simp [hh, listL]
theorem null_eq : putL [] (-1) 4 = putL [] 4294967295 4 := by decide
theorem rputc_c (xs : List UInt8) (l : List Cl) (hl : (xs ++ listL cellE l).length ≤ 140737488351232) (hn : l.length ≤ 140737488355328) (h : List (List AV)) :
    Contract Try.prog 54 [.sl 1 (bytesE xs) none .no, .sl 2 (enc cellC l) none .no] h (.sl 1 (bytesE (xs ++ listL cellE l)) none (.own .res)) h [] := by
  refine contract_of k54 mixed (by simp [c54]) fun hh hargs => ?_
  rw [List.length_append] at hl
  simp [c54]
  refine xcall_self (by simp) (rput_c xs l.length 2 (by omega) h) ?_
  simp
  have e0 : putL xs l.length 2 = xs ++ (putL [] l.length 2 ++ (l.take 0).flatMap cellE) := by rw [putL_eq]; simp
  rw [e0]
  refine xloop_ok (D := Nat) (fun j => ⟨[(1, .sl 2 (enc cellC l) none .no), (5, .v (.int .i64 j))], [(0, .sl 1 (bytesE (xs ++ (putL [] l.length 2 ++ (l.take j).flatMap cellE))) none (.own (.slot 0)))], h, []⟩) (fun j => j ≤ l.length) (fun j => l.length - j) 0 (by simp) ?_ ?_
  · simp [Leq, hh]
  · intro j hj
    by_cases hlt : j < l.length
    · have hw : IntKind.i64.wrap ((j : Int) + 1) = (j : Int) + 1 := wrap64 (by omega) (by omega)
      obtain ⟨hx, hb⟩ := flat_step cellE l (xs.length + (putL [] l.length 2).length) j hlt 140737488351232 (by simp only [listL, List.length_append] at hl; omega)
      obtain ⟨n, b, hc⟩ : ∃ n b, l[j] = (n, b) := ⟨_, _, rfl⟩
      rw [hc] at hx hb
      cases n with
      | true =>
        rw [cellE_null] at hx hb
        have e : putL (xs ++ (putL [] l.length 2 ++ (l.take j).flatMap cellE)) (-1) 4 = xs ++ (putL [] l.length 2 ++ (l.take (j + 1)).flatMap cellE) := by
          rw [putL_eq, hx, null_eq]; simp
        simp [hlt, hc, cellC_mk, -List.append_assoc]
        refine xcall_of (rput_c (xs ++ (putL [] l.length 2 ++ (l.take j).flatMap cellE)) (-1) 4 (by simp only [List.length_append]; omega) h) (by simp) (by simp) ?_
        rw [e]
        simp [hw]
        refine ⟨j + 1, by omega, by omega, ?_⟩
        simp [Leq, hh]
      | false =>
        rw [cellE_bytes] at hx hb
        have e : putL (xs ++ (putL [] l.length 2 ++ (l.take j).flatMap cellE)) b.length 4 ++ b = xs ++ (putL [] l.length 2 ++ (l.take (j + 1)).flatMap cellE) := by
          rw [putL_eq, hx]; simp
        have e2 : (putL (xs ++ (putL [] l.length 2 ++ (l.take j).flatMap cellE)) b.length 4).length + b.length ≤ 140737488355328 := by
          rw [putL_eq]; simp only [List.length_append] at hb ⊢; omega
        simp [hlt, hc, cellC_mk, -List.append_assoc]
        refine xcall_of (rput_c (xs ++ (putL [] l.length 2 ++ (l.take j).flatMap cellE)) b.length 4 (by simp only [List.length_append]; omega) h) (by simp) (by simp) ?_
        simp [hw, e2, -List.append_assoc]
        refine ⟨j + 1, by omega, by omega, ?_⟩
        rw [← bytesE_append, e]
        simp [Leq, hh]
    · have : j = l.length := by omega
      subst this
      simp [hh, listL]
/-- What the document's Encode answers. -/
def rencF (m : Fm) : Ms × Int := if rcheckF m = 0 then (⟨m.kind, bodyF m⟩, 0) else (⟨0, []⟩, rcheckF m)
theorem encT_len (a : List UInt8) : (He.encT a).length = a.length + 1 := by simp [He.encT]
theorem rencode_c (m : Fm) (hf : FmFit m) (hw : 0 ≤ m.what ∧ m.what < 256) (h : List (List AV)) (hb : (bodyF m).length ≤ 140737488351232) : Contract Try.prog 43 [.agg (fmC m)] h (.tup [.agg (msC (rencF m).1), .v (.int .i64 (rencF m).2)]) h [] := by
  have hf0 := hf
  obtain ⟨q1, q2, q3, q4, q5, q6, q7, q8⟩ := hf
  refine contract_of k43 mixed (by simp [c43]) fun hh hargs => ?_
  simp [c43]
  refine xcall_self (by simp) (rcheck_c m hf0 _) ?_
  by_cases he : rcheckF m = 0
  · have e0 : rencF m = (⟨m.kind, bodyF m⟩, 0) := if_pos he
    rw [e0]
    by_cases h80 : m.kind = 80
    · have e : bodyF m = (He.encT m.name ++ He.encT m.text) ++ listL (numE 4) m.oids := by unfold bodyF; rw [if_pos h80]; simp [textsL]
      rw [e] at hb ⊢
      simp only [List.length_append, encT_len] at hb
      simp [he, h80, -List.append_assoc]
      refine xcall_of (rstr_c [] m.name (by simp; omega) _) (by simp) (by simp) ?_
      simp
      refine xcall_of (rstr_c (He.encT m.name) m.text (by rw [encT_len]; omega) _) (by simp) (by simp) ?_
      simp
      refine xcall_of (rlist_c (He.encT m.name ++ He.encT m.text) m.oids 4 (by simp only [List.length_append, encT_len]; omega) q1 _) (by simp) (by simp) ?_
      simp [hh, msC_mk, h80]
    by_cases h66 : m.kind = 66
    · have e : bodyF m = (((He.encT m.portal ++ He.encT m.name) ++ listL (numE 2) m.formats) ++ listL cellE m.params) ++ listL (numE 2) m.results := by unfold bodyF; rw [if_neg h80, if_pos h66]; simp [textsL]
      rw [e] at hb ⊢
      simp only [List.length_append, encT_len] at hb
      simp [he, h66, -List.append_assoc]
      refine xcall_of (rstr_c [] m.portal (by simp; omega) _) (by simp) (by simp) ?_
      simp
      refine xcall_of (rstr_c (He.encT m.portal) m.name (by rw [encT_len]; omega) _) (by simp) (by simp) ?_
      simp
      refine xcall_of (rlist_c (He.encT m.portal ++ He.encT m.name) m.formats 2 (by simp only [List.length_append, encT_len]; omega) q2 _) (by simp) (by simp) ?_
      simp
      refine xcall_of (rputc_c ((He.encT m.portal ++ He.encT m.name) ++ listL (numE 2) m.formats) m.params (by simp only [List.length_append, encT_len]; omega) q4 _) (by simp) (by simp) ?_
      simp
      refine xcall_of (rlist_c (((He.encT m.portal ++ He.encT m.name) ++ listL (numE 2) m.formats) ++ listL cellE m.params) m.results 2 (by simp only [List.length_append, encT_len]; omega) q3 _) (by simp) (by simp) ?_
      simp [hh, msC_mk, h66]
    have hw3 : max m.what 0 % 256 = m.what := by omega
    by_cases h678 : m.kind = 67 ∨ m.kind = 68
    · have e : bodyF m = [UInt8.ofNat m.what.toNat] ++ He.encT (m.name ++ m.portal) := by unfold bodyF; rw [if_neg h80, if_neg h66, if_pos h678]; simp [textsL]
      rw [e] at hb ⊢
      simp only [List.length_append, encT_len, List.length_singleton] at hb
      rcases h678 with h67 | h67
      all_goals
        simp [he, h67]
        refine ⟨by omega, ?_⟩
        refine xcall_of (rstr_c [UInt8.ofNat m.what.toNat] (m.name ++ m.portal) (by simp; omega) _) (by simp [hw3]) (by simp) ?_
        simp [hh, msC_mk, h67, hw3]
    have h67 : ¬ m.kind = 67 := fun h => h678 (.inl h)
    have h68 : ¬ m.kind = 68 := fun h => h678 (.inr h)
    by_cases h69 : m.kind = 69
    · have e : bodyF m = putL (He.encT m.portal) m.max 4 := by unfold bodyF; rw [if_neg h80, if_neg h66, if_neg h678, if_pos h69]; simp [textsL]
      rw [e] at hb ⊢
      rw [putL_eq, List.length_append, encT_len] at hb
      simp [he, h69]
      refine xcall_of (rstr_c [] m.portal (by simp; omega) _) (by simp) (by simp) ?_
      simp
      refine xcall_of (rput_c (He.encT m.portal) m.max 4 (by rw [encT_len]; omega) _) (by simp) (by simp) ?_
      simp [hh, msC_mk, h69]
    by_cases h81 : m.kind = 81
    · have e : bodyF m = He.encT m.text := by unfold bodyF; rw [if_neg h80, if_neg h66, if_neg h678, if_neg h69, if_pos h81]; simp [textsL]
      rw [e] at hb ⊢
      rw [encT_len] at hb
      simp [he, h81]
      refine xcall_of (rstr_c [] m.text (by simp; omega) _) (by simp) (by simp) ?_
      simp [hh, msC_mk, h81]
    have e : bodyF m = [] := by unfold bodyF; rw [if_neg h80, if_neg h66, if_neg h678, if_neg h69, if_neg h81]
    rw [e]
    simp [he, h80, h66, h67, h68, h69, h81, hh, msC_mk]
  · simp [he, hh, rencF, msC_mk]
abbrev rnumbersQ (size : Int) (r : Rs) : Rs := listRs (rstep (numS · size)) r
abbrev rcellsQ (r : Rs) : Rs := listRs rcellQ r
abbrev numbersU (size : Int) (st : Sta) : List Int := listU (numV · size) (numS · size) st
end Go.Proofs.Ytdfocmmajngelaa.Ax
