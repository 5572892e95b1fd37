/- What texts say: lists of bytes without blanks around, and the verbs that they say. -/
import Derived.Test.YthielckgianmgaaDoorQAxX
import Derived.Test.YthielckgianmgaaDoorQAxNa
/- The types of package api as Lean structures, and how they are laid out. No program is named here. Written by gen/ax_types.py. -/
namespace Go.Proofs.YthielckgianmgaaDoor.Ax
open Go.RowKit Go By
set_option linter.unusedSimpArgs false
set_option linter.unusedVariables false

abbrev Cl := Bool × List UInt8
/-- api.Verb -/
structure Vb where
  kind : Int
  n : Int
  code : List UInt8
  deriving DecidableEq
def vbC (x : Vb) : List AV := [.v (.int .i64 x.kind), .v (.int .i64 x.n), .v (.string (strB x.code))]
@[simp] theorem vbC_len (x : Vb) : (vbC x).length = 3 := of_eq_true (eq_self _)
@[simp] theorem vbC_unown (x : Vb) : (vbC x).map AV.unown = vbC x := of_eq_true (eq_self _)
@[simp] theorem vbC_take (x : Vb) : List.take 3 (vbC x) = vbC x := of_eq_true (eq_self _)
@[simp] theorem vbC_g0 (x : Vb) (h : 0 < (vbC x).length) : (vbC x)[0] = .v (.int .i64 x.kind) := of_eq_true (eq_self _)
@[simp] theorem vbC_g1 (x : Vb) (h : 1 < (vbC x).length) : (vbC x)[1] = .v (.int .i64 x.n) := of_eq_true (eq_self _)
@[simp] theorem vbC_g2 (x : Vb) (h : 2 < (vbC x).length) : (vbC x)[2] = .v (.string (strB x.code)) := of_eq_true (eq_self _)
theorem vbC_mk (x : Vb) : vbC x = [.v (.int .i64 x.kind), .v (.int .i64 x.n), .v (.string (strB x.code))] := rfl
@[simp] theorem vbC_lt (n : Nat) (x : Vb) : ltL n (vbC x) := by simp [vbC_mk]
end Go.Proofs.YthielckgianmgaaDoor.Ax
namespace Go.Proofs.YthielckgianmgaaDoor.Ax
open Go.RowKit Go By Nm Dg
set_option linter.unusedSimpArgs false
set_option linter.unusedVariables false
set_option maxRecDepth 10000

/-! ### Without blanks around -/
def ltrim : List UInt8 → List UInt8
  | [] => []
  | x :: t => if x = 32 then ltrim t else x :: t
def rtrim : List UInt8 → List UInt8
  | [] => []
  | x :: t => if rtrim t = [] ∧ x = 32 then [] else x :: rtrim t
def trimL (s : List UInt8) : List UInt8 := rtrim (ltrim s)
theorem rtrim_snoc (l : List UInt8) : rtrim (l ++ [32]) = rtrim l := by
  induction l with
  | nil => simp [rtrim]
  | cons x t ih => simp only [List.cons_append, rtrim, ih]
theorem rtrim_end (l : List UInt8) {c : UInt8} (h : c ≠ 32) : rtrim (l ++ [c]) = l ++ [c] := by
  induction l with
  | nil => simp [rtrim, h]
  | cons x t ih => simp [rtrim, ih]
theorem trim_swap (s : List UInt8) : ltrim (rtrim s) = rtrim (ltrim s) := by
  induction s with
  | nil => rfl
  | cons x t ih =>
    by_cases hx : x = 32
    · subst hx
      have e : ltrim (32 :: t) = ltrim t := by simp [ltrim]
      rw [e, ← ih]
      by_cases hr : rtrim t = []
      · simp [rtrim, hr, ltrim]
      · simp [rtrim, hr, ltrim]
    · simp [rtrim, ltrim, hx]
theorem ltrim_blanks (a : Nat) (s : List UInt8) : ltrim (List.replicate a 32 ++ s) = ltrim s := by
  induction a with
  | zero => rfl
  | succ a ih => rw [List.replicate_succ, List.cons_append, ltrim, if_pos rfl, ih]
theorem rtrim_blanks (b : Nat) (s : List UInt8) : rtrim (s ++ List.replicate b 32) = rtrim s := by
  induction b with
  | zero => simp
  | succ b ih => rw [List.replicate_succ', ← List.append_assoc, rtrim_snoc, ih]
theorem trim_blanks (a b : Nat) (s : List UInt8) : trimL (List.replicate a 32 ++ s ++ List.replicate b 32) = trimL s := by
  unfold trimL
  rw [← trim_swap, rtrim_blanks, trim_swap, ltrim_blanks]
theorem trim_ahead (a : Nat) (s : List UInt8) : trimL (List.replicate a 32 ++ s) = trimL s := by unfold trimL; rw [ltrim_blanks]
theorem ltrim_len (s : List UInt8) : (ltrim s).length ≤ s.length := by
  induction s with
  | nil => simp [ltrim]
  | cons x t ih => unfold ltrim; split <;> simp <;> omega
theorem rtrim_len (s : List UInt8) : (rtrim s).length ≤ s.length := by
  induction s with
  | nil => simp [rtrim]
  | cons x t ih => unfold rtrim; split <;> simp <;> omega
theorem trim_len (s : List UInt8) : (trimL s).length ≤ s.length := Nat.le_trans (rtrim_len _) (ltrim_len _)
/-! ### What texts say -/
def beginT : List UInt8 := [98, 101, 103, 105, 110]
def commitT : List UInt8 := [99, 111, 109, 109, 105, 116]
def rollT : List UInt8 := [114, 111, 108, 108, 98, 97, 99, 107]
def echoT : List UInt8 := [101, 99, 104, 111]
def nextT : List UInt8 := [110, 101, 120, 116]
def selT : List UInt8 := [115, 101, 108, 101, 99, 116, 32]
def failT : List UInt8 := [102, 97, 105, 108, 32]
/-- Is the byte one of a code? -/
def cdB (c : UInt8) : Bool := (decide (48 ≤ c.toNat) && decide (c.toNat ≤ 57)) || (decide (65 ≤ c.toNat) && decide (c.toNat ≤ 90))
def codeB (s : List UInt8) : Bool := decide (s.length = 5) && s.all cdB
/-- What a text without blanks around says. -/
def sayQ (s : List UInt8) : Vb :=
  if s = [] then ⟨1, 0, []⟩ else if s = beginT then ⟨2, 0, []⟩ else if s = commitT then ⟨3, 0, []⟩ else if s = rollT then ⟨4, 0, []⟩ else if s = echoT then ⟨6, 0, []⟩ else if s = nextT then ⟨7, 0, []⟩
  else if hasP s selT = true ∧ parseB (s.drop 7) 99 = true then ⟨5, parseV (s.drop 7) 99, []⟩
  else if hasP s failT = true ∧ codeB (s.drop 5) = true then ⟨8, 0, s.drop 5⟩ else ⟨0, 0, []⟩
/-- What a text begins with that says a verb. -/
def wordQ (k : Int) : List UInt8 := if k = 2 then beginT else if k = 3 then commitT else if k = 4 then rollT else if k = 5 then selT else if k = 6 then echoT else if k = 7 then nextT else if k = 8 then failT else []
def textQ (v : Vb) : List UInt8 := if v.kind = 5 then selT ++ textL v.n else if v.kind = 8 then failT ++ v.code else wordQ v.kind
def printQ (v : Vb) : List UInt8 := if sayQ (trimL (textQ v)) = v then textQ v else []
theorem hasP_eq {s p : List UInt8} (h : hasP s p = true) : s = p ++ s.drop p.length := by
  unfold hasP at h
  simp at h
  conv => lhs; rw [← List.take_append_drop p.length s]
  rw [h.2]
theorem hasP_app (p s : List UInt8) : hasP (p ++ s) p = true := by
  unfold hasP
  simp
theorem snoc_of {s : List UInt8} (h : s ≠ []) : ∃ u c, s = u ++ [c] := ⟨s.dropLast, s.getLast h, (List.dropLast_concat_getLast h).symm⟩
theorem ltrim_twice (s : List UInt8) : ltrim (ltrim s) = ltrim s := by
  induction s with
  | nil => rfl
  | cons x t ih =>
    by_cases hx : x = 32
    · subst hx
      have e : ltrim (32 :: t) = ltrim t := by simp [ltrim]
      rw [e, ih]
    · simp [ltrim, hx]
theorem rtrim_twice (s : List UInt8) : rtrim (rtrim s) = rtrim s := by
  induction s with
  | nil => rfl
  | cons x t ih =>
    by_cases hr : rtrim t = [] ∧ x = 32
    · rw [rtrim, if_pos hr]; rfl
    · rw [rtrim, if_neg hr, rtrim, ih, if_neg hr]
theorem trim_twice (s : List UInt8) : trimL (trimL s) = trimL s := by
  unfold trimL
  rw [trim_swap, rtrim_twice, ltrim_twice]
/-- What says what a text says is that text. -/
theorem text_say {s : List UInt8} (hk : (sayQ s).kind ≠ 0) : textQ (sayQ s) = s := by
  unfold sayQ at hk ⊢
  by_cases e1 : s = []
  · subst e1; rfl
  rw [if_neg e1] at hk ⊢
  by_cases e2 : s = beginT
  · subst e2; rfl
  rw [if_neg e2] at hk ⊢
  by_cases e3 : s = commitT
  · subst e3; rfl
  rw [if_neg e3] at hk ⊢
  by_cases e4 : s = rollT
  · subst e4; rfl
  rw [if_neg e4] at hk ⊢
  by_cases e5 : s = echoT
  · subst e5; rfl
  rw [if_neg e5] at hk ⊢
  by_cases e6 : s = nextT
  · subst e6; rfl
  rw [if_neg e6] at hk ⊢
  by_cases e7 : hasP s selT = true ∧ parseB (s.drop 7) 99 = true
  · rw [if_pos e7]
    show selT ++ textL (parseV (s.drop 7) 99) = s
    rw [Dg.digs_parse _ _ e7.2]
    exact (hasP_eq e7.1).symm
  rw [if_neg e7] at hk ⊢
  by_cases e8 : hasP s failT = true ∧ codeB (s.drop 5) = true
  · rw [if_pos e8]
    exact (hasP_eq e8.1).symm
  rw [if_neg e8] at hk
  exact absurd rfl hk
/-- What a text says, its own text says. -/
theorem print_say (s : List UInt8) (hk : (sayQ (trimL s)).kind ≠ 0) : sayQ (trimL (printQ (sayQ (trimL s)))) = sayQ (trimL s) := by
  have e := text_say hk
  unfold printQ
  rw [e, trim_twice, if_pos rfl, trim_twice]
/-- What a verb's text says. -/
theorem say_print (v : Vb) (h : printQ v ≠ []) : sayQ (trimL (printQ v)) = v := by
  unfold printQ at h ⊢
  by_cases e : sayQ (trimL (textQ v)) = v
  · rw [if_pos e]; exact e
  · rw [if_neg e] at h; exact absurd rfl h
theorem say_sel (t : List UInt8) : sayQ (selT ++ t) = if parseB t 99 = true then ⟨5, parseV t 99, []⟩ else ⟨0, 0, []⟩ := by
  have h1 : hasP (selT ++ t) selT = true := hasP_app _ _
  have h2 : hasP (selT ++ t) failT = false := by simp [hasP, selT, failT]
  have h3 : (selT ++ t).drop 7 = t := by simp [selT]
  unfold sayQ
  rw [h1, h2, h3]
  simp [selT, beginT, commitT, rollT, echoT, nextT]
theorem say_fail (t : List UInt8) : sayQ (failT ++ t) = if codeB t = true then ⟨8, 0, t⟩ else ⟨0, 0, []⟩ := by
  have h1 : hasP (failT ++ t) selT = false := by simp [hasP, selT, failT]
  have h2 : hasP (failT ++ t) failT = true := hasP_app _ _
  have h3 : (failT ++ t).drop 5 = t := by simp [failT]
  unfold sayQ
  rw [h1, h2, h3]
  simp [failT, beginT, commitT, rollT, echoT, nextT]
theorem say_else {u : List UInt8} (h1 : hasP u selT = false) (h2 : hasP u failT = false) : sayQ u = if u = [] then ⟨1, 0, []⟩ else if u = beginT then ⟨2, 0, []⟩ else if u = commitT then ⟨3, 0, []⟩ else if u = rollT then ⟨4, 0, []⟩ else if u = echoT then ⟨6, 0, []⟩ else if u = nextT then ⟨7, 0, []⟩ else ⟨0, 0, []⟩ := by
  unfold sayQ
  rw [h1, h2]
  simp
theorem text_len (v : Vb) (h1 : -9223372036854775808 ≤ v.n) (h2 : v.n ≤ 9223372036854775807) : (textQ v).length ≤ v.code.length + 30 := by
  have h3 : (Dg.textL v.n).length ≤ 21 := dtext_len v.n h1 h2
  unfold textQ
  split
  · simp [selT]; omega
  split
  · simp [failT]; try omega
  unfold wordQ
  repeat' split
  all_goals simp [beginT, commitT, rollT, selT, echoT, nextT, failT]
theorem print_len (v : Vb) (h1 : -9223372036854775808 ≤ v.n) (h2 : v.n ≤ 9223372036854775807) : (printQ v).length ≤ v.code.length + 30 := by
  unfold printQ
  split
  · exact text_len v h1 h2
  · simp
end Go.Proofs.YthielckgianmgaaDoor.Ax
