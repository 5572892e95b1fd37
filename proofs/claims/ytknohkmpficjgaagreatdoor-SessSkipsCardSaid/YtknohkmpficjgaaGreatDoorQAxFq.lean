import Derived.Test.YtknohkmpficjgaaGreatDoorQAxKc0
import Derived.Test.YtknohkmpficjgaaGreatDoorQHelA
import Derived.Test.YtknohkmpficjgaaGreatDoorQAxWo
import Derived.Test.YtknohkmpficjgaaGreatDoorQAxGc
import Derived.Test.YtknohkmpficjgaaGreatDoorQAxPf
set_option linter.unusedSimpArgs false
set_option linter.unusedVariables false
namespace Go.Proofs.YtknohkmpficjgaaGreatDoor.Ax
open Go.RowKit Go By YtknohkmpficjgaaGreatDoor.Nm Sc Dg
set_option maxRecDepth 10000
def scC (st : Sta) : List AV := [.v (.bool st.isSome), .sl 1 (bytesE (st.getD [])) none .no]
@[simp] theorem scC_some (xs : List UInt8) : scC (some xs) = [.v (.bool true), .sl 1 (bytesE xs) none .no] := rfl
@[simp] theorem scC_none : scC none = [.v (.bool false), .sl 1 (bytesE []) none .no] := rfl
section
variable (i : Nat) (h : List (List AV)) (st : Sta) (hi : h[i]? = some (scC st))
include hi
end
section
variable (i : Nat) (h : List (List AV)) (st : Sta) (hi : h[i]? = some (scC st))
include hi
end
abbrev Rs := List UInt8 × Bool
def rsC (r : Rs) : List AV := [.sl 1 (bytesE r.1) none .no, .v (.bool r.2)]
def rabs (r : Rs) : Sta := bif r.2 then none else some r.1
@[simp] theorem rsC_mk (b : List UInt8) (no : Bool) : rsC (b, no) = [.sl 1 (bytesE b) none .no, .v (.bool no)] := of_eq_true (eq_self _)
@[simp] theorem rabs_true (b : List UInt8) : rabs (b, true) = none := of_eq_true (eq_self _)
@[simp] theorem rabs_false (b : List UInt8) : rabs (b, false) = some b := of_eq_true (eq_self _)
def rback (b : List UInt8) : Sta -> Rs
 | some xs => (xs, false)
 | none => (b, true)
def rstep (f : Sta -> Sta) (r : Rs) : Rs := rback r.1 (f (rabs r))
section
variable (i : Nat) (h : List (List AV)) (r : Rs) (hi : h[i]? = some (rsC r))
include hi
end
def readR {α : Type} (v : Sta -> α) (s : Sta -> Sta) : Nat -> Sta -> List α × Sta
 | 0, st => ([], st)
 | k + 1, st => (v st :: (readR v s k (s st)).1, (readR v s k (s st)).2)
section
variable {α : Type} (v : Sta -> α) (s : Sta -> Sta)
end
def listV {α : Type} (v : Sta -> α) (s : Sta -> Sta) (st : Sta) : List α :=
 if (readR v s (numV st 2).toNat (numS st 2)).2 = none then [] else (readR v s (numV st 2).toNat (numS st 2)).1
def listS {α : Type} (v : Sta -> α) (s : Sta -> Sta) (st : Sta) : Sta := (readR v s (numV st 2).toNat (numS st 2)).2
def cellV (st : Sta) : Cl := if numV st 4 = 4294967295 then (true, []) else (false, takeL (numS st 4) (numV st 4))
def cellS (st : Sta) : Sta := if numV st 4 = 4294967295 then numS st 4 else takeS (numS st 4) (numV st 4)
def readU {α : Type} (v : Sta -> α) (s : Sta -> Sta) : Nat -> Sta -> List α
 | 0, _ => []
 | k + 1, st => if st = none then [] else v st :: readU v s k (s st)
def listU {α : Type} (v : Sta -> α) (s : Sta -> Sta) (st : Sta) : List α := readU v s (numV st 2).toNat (numS st 2)
def rsN (q : Rs -> Rs) : Nat -> Rs -> Rs
 | 0, r => r
 | k + 1, r => rsN q k (q r)
def listRs (q : Rs -> Rs) (r : Rs) : Rs := rsN q (numV (rabs r) 2).toNat (rstep (numS · 2) r)
section
variable {α : Type} (v : Sta -> α) (s : Sta -> Sta) (q : Rs -> Rs) (hq : ∀ r, rabs (q r) = s (rabs r)) (hb : ∀ r, rabs r = none -> q r = r) (r : Rs) (n : Nat) (hn : numV (rabs r) 2 = n)
include hq hn
end
def rcellQ (r : Rs) : Rs := if numV (rabs r) 4 = 4294967295 then rstep (numS · 4) r else rstep (takeS · (numV (rabs r) 4)) (rstep (numS · 4) r)
def catL (l : List (List UInt8)) : List UInt8 := l.flatMap id
@[simp] theorem catL_nil : catL [] = [] := of_eq_true (eq_self _)
def bodyF (m : Fm) : List UInt8 :=
 if m.kind = 80 then textsL [m.name, m.text] ++ listL (numE 4) m.oids
 else if m.kind = 66 then textsL [m.portal, m.name] ++ (listL (numE 2) m.formats ++ (listL cellE m.params ++ listL (numE 2) m.results))
 else if m.kind = 67 \/ m.kind = 68 then UInt8.ofNat m.what.toNat :: textsL [m.name ++ m.portal]
 else if m.kind = 69 then putL (textsL [m.portal]) m.max 4
 else if m.kind = 81 then textsL [m.text]
 else []
abbrev numbersV (size : Int) (st : Sta) : List Int := listV (numV · size) (numS · size) st
abbrev numbersS (size : Int) (st : Sta) : Sta := listS (numV · size) (numS · size) st
abbrev cellsV (st : Sta) : List Cl := listV cellV cellS st
abbrev cellsS (st : Sta) : Sta := listS cellV cellS st
open He (textL)
end Go.Proofs.YtknohkmpficjgaaGreatDoor.Ax
namespace Go.Proofs.YtknohkmpficjgaaGreatDoor.Ax
open Go.RowKit Go By YtknohkmpficjgaaGreatDoor.Nm Sc Dg
set_option maxRecDepth 10000
open He (textL)
theorem encT_len (a : List UInt8) : (He.encT a).length = a.length + 1 := by simp [He.encT]
abbrev rnumbersQ (size : Int) (r : Rs) : Rs := listRs (rstep (numS · size)) r
abbrev rcellsQ (r : Rs) : Rs := listRs rcellQ r
abbrev numbersU (size : Int) (st : Sta) : List Int := listU (numV · size) (numS · size) st
end Go.Proofs.YtknohkmpficjgaaGreatDoor.Ax
