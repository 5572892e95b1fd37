import Derived.Test.YtdfgljojemmlcaaGreatQAxWo
import Derived.Test.YtdfgljojemmlcaaGreatQAxSc
import Derived.Test.YtdfgljojemmlcaaGreatQAxPf
set_option linter.unusedSimpArgs false
set_option linter.unusedVariables false
set_option linter.ambiguousOpen false
namespace Go.Proofs.YtdfgljojemmlcaaGreat.Ax
open Go.RowKit Go By Nm Sc Dg
set_option maxRecDepth 10000
def readR {α : Type} (v : Sta -> α) (s : Sta -> Sta) : Nat -> Sta -> List α × Sta
 | 0, st => ([], st)
 | k + 1, st => (v st :: (readR v s k (s st)).1, (readR v s k (s st)).2)
section
variable {α : Type} (v : Sta -> α) (s : Sta -> Sta)
end
def listV {α : Type} (v : Sta -> α) (s : Sta -> Sta) (st : Sta) : List α :=
 if (readR v s (numV st 2).toNat (numS st 2)).2 = none then [] else (readR v s (numV st 2).toNat (numS st 2)).1
def listS {α : Type} (v : Sta -> α) (s : Sta -> Sta) (st : Sta) : Sta := (readR v s (numV st 2).toNat (numS st 2)).2
def cellV (st : Sta) : Cl := if numV st 4 = 4294967295 then (true, []) else (false, takeL (numS st 4) (numV st 4))
def cellS (st : Sta) : Sta := if numV st 4 = 4294967295 then numS st 4 else takeS (numS st 4) (numV st 4)
def readU {α : Type} (v : Sta -> α) (s : Sta -> Sta) : Nat -> Sta -> List α
 | 0, _ => []
 | k + 1, st => if st = none then [] else v st :: readU v s k (s st)
def listU {α : Type} (v : Sta -> α) (s : Sta -> Sta) (st : Sta) : List α := readU v s (numV st 2).toNat (numS st 2)
def rsN (q : Rs -> Rs) : Nat -> Rs -> Rs
 | 0, r => r
 | k + 1, r => rsN q k (q r)
def listRs (q : Rs -> Rs) (r : Rs) : Rs := rsN q (numV (rabs r) 2).toNat (rstep (numS · 2) r)
section
variable {α : Type} (v : Sta -> α) (s : Sta -> Sta) (q : Rs -> Rs) (hq : ∀ r, rabs (q r) = s (rabs r)) (hb : ∀ r, rabs r = none -> q r = r) (r : Rs) (n : Nat) (hn : numV (rabs r) 2 = n)
include hq hn
end
def rcellQ (r : Rs) : Rs := if numV (rabs r) 4 = 4294967295 then rstep (numS · 4) r else rstep (takeS · (numV (rabs r) 4)) (rstep (numS · 4) r)
def bytC (b : List UInt8) : List AV := [.sl 1 (bytesE b) none .no]
@[simp] theorem ltLL_bytC (n : Nat) (l : List (List UInt8)) : ltLL n (enc bytC l) := ltLL_enc bytC n (fun _ => by simp [bytC]) l
def catL (l : List (List UInt8)) : List UInt8 := l.flatMap id
theorem catL_step (l : List (List UInt8)) (a j : Nat) (hj : j < l.length) (N : Nat) (hN : a + (catL l).length <= N) : catL (l.take (j + 1)) = catL (l.take j) ++ l[j] /\ a + ((catL (l.take j)).length + l[j].length) <= N := flat_step id l a j hj N hN
@[simp] theorem catL_nil : catL [] = [] := of_eq_true (eq_self _)
@[simp] theorem catL_cons (x : List UInt8) (l : List (List UInt8)) : catL (x :: l) = x ++ catL l := of_eq_true (eq_self _)
theorem concat_c (l : List (List UInt8)) (h : List (List AV)) (hl : (catL l).length <= 140737488355328) (hn : l.length <= 140737488355328) : Contract Tryz.prog 149 [.sl 1 (enc bytC l) none .no] h (.sl 1 (bytesE (catL l)) none (.own .res)) h [] := by
 refine contract_of k149 mixed (by simp [c149]) fun hh hargs => ?_
 simp [c149]
 refine xloop_ok (D := Nat) (fun j => ⟨[(0, .sl 1 (enc bytC l) none .no), (3, .v (.int .i64 (catL (l.take j)).length)), (9, .sl 1 (enc bytC l) none .no), (10, .v (.int .i64 l.length)), (11, .v (.int .i64 j))], [], h, []⟩) (fun j => j <= l.length) (fun j => l.length - j) 0 (by simp) ?_ ?_
 ·simp [Leq, hh]
 ·intro j hj
  by_cases hlt : j < l.length
  ·have hw : IntKind.i64.wrap ((j : Int) + 1) = (j : Int) + 1 := wrap64 (by omega) (by omega)
   obtain ⟨hx, hb⟩ := catL_step l 0 j hlt _ (by simpa using hl)
   have hw2 : IntKind.i64.wrap (((catL (l.take j)).length : Int) + (l[j].length : Int)) = ((catL (l.take (j + 1))).length : Int) := by
    rw [hx, List.length_append, wrap64 (by omega) (by omega)]; simp
   have h0 : ¬ ((catL (l.take (j + 1))).length : Int) < 0 := by omega
   simp [hlt, bytC, hw, hw2, h0]
   refine ⟨j + 1, by omega, by omega, ?_⟩
   simp [Leq, hh]
  ·have : j = l.length := by omega
   subst this
   simp
   refine xcall_self (by simp) (grow_c _ hl h) ?_
   simp
   refine xloop_ok (D := Nat) (fun j => ⟨[(25, .sl 1 (enc bytC l) none .no), (26, .v (.int .i64 l.length)), (27, .v (.int .i64 j))], [(6, .sl 1 (bytesE (catL (l.take j))) none (.own (.slot 6)))], h, []⟩) (fun j => j <= l.length) (fun j => l.length - j) 0 (by simp) ?_ ?_
   ·simp [Leq, hh]
   ·intro j hj
    by_cases hlt : j < l.length
    ·have hw : IntKind.i64.wrap ((j : Int) + 1) = (j : Int) + 1 := wrap64 (by omega) (by omega)
     obtain ⟨hx, hb⟩ := catL_step l 0 j hlt _ (by simpa using hl)
     simp [hlt, bytC, hw]
     refine ⟨by omega, j + 1, by omega, by omega, ?_⟩
     simp [Leq, hh, hx]
    ·have : j = l.length := by omega
     subst this
     simp [hh]
abbrev numbersV (size : Int) (st : Sta) : List Int := listV (numV · size) (numS · size) st
abbrev numbersS (size : Int) (st : Sta) : Sta := listS (numV · size) (numS · size) st
abbrev cellsV (st : Sta) : List Cl := listV cellV cellS st
abbrev cellsS (st : Sta) : Sta := listS cellV cellS st
open He (textL)
end Go.Proofs.YtdfgljojemmlcaaGreat.Ax
namespace Go.Proofs.YtdfgljojemmlcaaGreat.Ax
open Go.RowKit Go By Nm Sc Dg
set_option maxRecDepth 10000
open He (textL)
theorem putL_eq (xs : List UInt8) (n size : Int) : putL xs n size = xs ++ putL [] n size := by
 unfold putL; split <;> simp
abbrev rnumbersQ (size : Int) (r : Rs) : Rs := listRs (rstep (numS · size)) r
abbrev rcellsQ (r : Rs) : Rs := listRs rcellQ r
abbrev numbersU (size : Int) (st : Sta) : List Int := listU (numV · size) (numS · size) st
end Go.Proofs.YtdfgljojemmlcaaGreat.Ax
