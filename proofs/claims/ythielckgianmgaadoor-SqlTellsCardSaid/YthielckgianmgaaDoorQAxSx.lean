/- What texts say: lists of bytes without blanks around, and the verbs that they say. -/
import Derived.Test.YthielckgianmgaaDoorQAxX
import Derived.Test.YthielckgianmgaaDoorQAxNa
/- The types of package api as Lean structures, and how they are laid out. No program is named here. Written by gen/ax_types.py. -/
namespace Go.Proofs.YthielckgianmgaaDoor.Ax
open Go.RowKit Go By
set_option linter.unusedSimpArgs false
set_option linter.unusedVariables false

abbrev Cl := Bool × List UInt8
/-- api.Verb -/
structure Vb where
  kind : Int
  n : Int
  code : List UInt8
  deriving DecidableEq
def vbC (x : Vb) : List AV := [.v (.int .i64 x.kind), .v (.int .i64 x.n), .v (.string (strB x.code))]
@[simp] theorem vbC_len (x : Vb) : (vbC x).length = 3 := of_eq_true (eq_self _)
@[simp] theorem vbC_unown (x : Vb) : (vbC x).map AV.unown = vbC x := of_eq_true (eq_self _)
@[simp] theorem vbC_take (x : Vb) : List.take 3 (vbC x) = vbC x := of_eq_true (eq_self _)
@[simp] theorem vbC_g0 (x : Vb) (h : 0 < (vbC x).length) : (vbC x)[0] = .v (.int .i64 x.kind) := of_eq_true (eq_self _)
@[simp] theorem vbC_g1 (x : Vb) (h : 1 < (vbC x).length) : (vbC x)[1] = .v (.int .i64 x.n) := of_eq_true (eq_self _)
@[simp] theorem vbC_g2 (x : Vb) (h : 2 < (vbC x).length) : (vbC x)[2] = .v (.string (strB x.code)) := of_eq_true (eq_self _)
theorem vbC_mk (x : Vb) : vbC x = [.v (.int .i64 x.kind), .v (.int .i64 x.n), .v (.string (strB x.code))] := rfl
@[simp] theorem vbC_lt (n : Nat) (x : Vb) : ltL n (vbC x) := by simp [vbC_mk]
end Go.Proofs.YthielckgianmgaaDoor.Ax
namespace Go.Proofs.YthielckgianmgaaDoor.Ax
open Go.RowKit Go By Nm Dg
set_option linter.unusedSimpArgs false
set_option linter.unusedVariables false
set_option maxRecDepth 10000

/-! ### Without blanks around -/
def ltrim : List UInt8 → List UInt8
  | [] => []
  | x :: t => if x = 32 then ltrim t else x :: t
def rtrim : List UInt8 → List UInt8
  | [] => []
  | x :: t => if rtrim t = [] ∧ x = 32 then [] else x :: rtrim t
def trimL (s : List UInt8) : List UInt8 := rtrim (ltrim s)
theorem rtrim_snoc (l : List UInt8) : rtrim (l ++ [32]) = rtrim l := by
  induction l with
  | nil => simp [rtrim]
  | cons x t ih => simp only [List.cons_append, rtrim, ih]
theorem rtrim_end (l : List UInt8) {c : UInt8} (h : c ≠ 32) : rtrim (l ++ [c]) = l ++ [c] := by
  induction l with
  | nil => simp [rtrim, h]
  | cons x t ih => simp [rtrim, ih]
theorem trim_swap (s : List UInt8) : ltrim (rtrim s) = rtrim (ltrim s) := by
  induction s with
  | nil => rfl
  | cons x t ih =>
    by_cases hx : x = 32
    · subst hx
      have e : ltrim (32 :: t) = ltrim t := by simp [ltrim]
      rw [e, ← ih]
      by_cases hr : rtrim t = []
      · simp [rtrim, hr, ltrim]
      · simp [rtrim, hr, ltrim]
    · simp [rtrim, ltrim, hx]
theorem ltrim_len (s : List UInt8) : (ltrim s).length ≤ s.length := by
  induction s with
  | nil => simp [ltrim]
  | cons x t ih => unfold ltrim; split <;> simp <;> omega
theorem rtrim_len (s : List UInt8) : (rtrim s).length ≤ s.length := by
  induction s with
  | nil => simp [rtrim]
  | cons x t ih => unfold rtrim; split <;> simp <;> omega
theorem trim_len (s : List UInt8) : (trimL s).length ≤ s.length := Nat.le_trans (rtrim_len _) (ltrim_len _)
/-! ### What texts say -/
def beginT : List UInt8 := [98, 101, 103, 105, 110]
def commitT : List UInt8 := [99, 111, 109, 109, 105, 116]
def rollT : List UInt8 := [114, 111, 108, 108, 98, 97, 99, 107]
def echoT : List UInt8 := [101, 99, 104, 111]
def nextT : List UInt8 := [110, 101, 120, 116]
def selT : List UInt8 := [115, 101, 108, 101, 99, 116, 32]
def failT : List UInt8 := [102, 97, 105, 108, 32]
/-- Is the byte one of a code? -/
def cdB (c : UInt8) : Bool := (decide (48 ≤ c.toNat) && decide (c.toNat ≤ 57)) || (decide (65 ≤ c.toNat) && decide (c.toNat ≤ 90))
def codeB (s : List UInt8) : Bool := decide (s.length = 5) && s.all cdB
/-- What a text without blanks around says. -/
def sayQ (s : List UInt8) : Vb :=
  if s = [] then ⟨1, 0, []⟩ else if s = beginT then ⟨2, 0, []⟩ else if s = commitT then ⟨3, 0, []⟩ else if s = rollT then ⟨4, 0, []⟩ else if s = echoT then ⟨6, 0, []⟩ else if s = nextT then ⟨7, 0, []⟩
  else if hasP s selT = true ∧ parseB (s.drop 7) 99 = true then ⟨5, parseV (s.drop 7) 99, []⟩
  else if hasP s failT = true ∧ codeB (s.drop 5) = true then ⟨8, 0, s.drop 5⟩ else ⟨0, 0, []⟩
/-- What a text begins with that says a verb. -/
def wordQ (k : Int) : List UInt8 := if k = 2 then beginT else if k = 3 then commitT else if k = 4 then rollT else if k = 5 then selT else if k = 6 then echoT else if k = 7 then nextT else if k = 8 then failT else []
def textQ (v : Vb) : List UInt8 := if v.kind = 5 then selT ++ textL v.n else if v.kind = 8 then failT ++ v.code else wordQ v.kind
def printQ (v : Vb) : List UInt8 := if sayQ (trimL (textQ v)) = v then textQ v else []
theorem hasP_eq {s p : List UInt8} (h : hasP s p = true) : s = p ++ s.drop p.length := by
  unfold hasP at h
  simp at h
  conv => lhs; rw [← List.take_append_drop p.length s]
  rw [h.2]
theorem hasP_app (p s : List UInt8) : hasP (p ++ s) p = true := by
  unfold hasP
  simp
theorem snoc_of {s : List UInt8} (h : s ≠ []) : ∃ u c, s = u ++ [c] := ⟨s.dropLast, s.getLast h, (List.dropLast_concat_getLast h).symm⟩
theorem say_sel (t : List UInt8) : sayQ (selT ++ t) = if parseB t 99 = true then ⟨5, parseV t 99, []⟩ else ⟨0, 0, []⟩ := by
  have h1 : hasP (selT ++ t) selT = true := hasP_app _ _
  have h2 : hasP (selT ++ t) failT = false := by simp [hasP, selT, failT]
  have h3 : (selT ++ t).drop 7 = t := by simp [selT]
  unfold sayQ
  rw [h1, h2, h3]
  simp [selT, beginT, commitT, rollT, echoT, nextT]
theorem say_fail (t : List UInt8) : sayQ (failT ++ t) = if codeB t = true then ⟨8, 0, t⟩ else ⟨0, 0, []⟩ := by
  have h1 : hasP (failT ++ t) selT = false := by simp [hasP, selT, failT]
  have h2 : hasP (failT ++ t) failT = true := hasP_app _ _
  have h3 : (failT ++ t).drop 5 = t := by simp [failT]
  unfold sayQ
  rw [h1, h2, h3]
  simp [failT, beginT, commitT, rollT, echoT, nextT]
/-- Is a text a word? -/
def isWord (u : List UInt8) : Prop := u = [] ∨ u = beginT ∨ u = commitT ∨ u = rollT ∨ u = echoT ∨ u = nextT
theorem say_rest {u : List UInt8} (h : ¬ isWord u) : sayQ u = if hasP u selT = true ∧ parseB (u.drop 7) 99 = true then ⟨5, parseV (u.drop 7) 99, []⟩ else if hasP u failT = true ∧ codeB (u.drop 5) = true then ⟨8, 0, u.drop 5⟩ else ⟨0, 0, []⟩ := by
  unfold isWord at h
  simp only [not_or] at h
  obtain ⟨h1, h2, h3, h4, h5, h6⟩ := h
  unfold sayQ
  rw [if_neg h1, if_neg h2, if_neg h3, if_neg h4, if_neg h5, if_neg h6]
theorem hasP_no {s p : List UInt8} (h : (s.take p.length == p) = false) : hasP s p = false := by unfold hasP; rw [h, Bool.and_false]
theorem hasP_yes {s p : List UInt8} (h : (s.take p.length == p) = true) : hasP s p = true := by
  unfold hasP
  have e : s.take p.length = p := by simpa using h
  have hl : p.length ≤ s.length := by
    have := congrArg List.length e
    rw [List.length_take] at this
    omega
  rw [decide_eq_true hl, h]; rfl
theorem say_else {u : List UInt8} (h1 : hasP u selT = false) (h2 : hasP u failT = false) : sayQ u = if u = [] then ⟨1, 0, []⟩ else if u = beginT then ⟨2, 0, []⟩ else if u = commitT then ⟨3, 0, []⟩ else if u = rollT then ⟨4, 0, []⟩ else if u = echoT then ⟨6, 0, []⟩ else if u = nextT then ⟨7, 0, []⟩ else ⟨0, 0, []⟩ := by
  unfold sayQ
  rw [h1, h2]
  simp
theorem text_len (v : Vb) (h1 : -9223372036854775808 ≤ v.n) (h2 : v.n ≤ 9223372036854775807) : (textQ v).length ≤ v.code.length + 30 := by
  have h3 : (Dg.textL v.n).length ≤ 21 := dtext_len v.n h1 h2
  unfold textQ
  split
  · simp [selT]; omega
  split
  · simp [failT]; try omega
  unfold wordQ
  repeat' split
  all_goals simp [beginT, commitT, rollT, selT, echoT, nextT, failT]
end Go.Proofs.YthielckgianmgaaDoor.Ax
