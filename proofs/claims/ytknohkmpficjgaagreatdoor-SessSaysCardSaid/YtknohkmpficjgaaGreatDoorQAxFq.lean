import Derived.Test.YtknohkmpficjgaaGreatDoorQAxPf
set_option linter.unusedSimpArgs false
set_option linter.unusedVariables false
open List renaming length_append -> Q7, append_assoc -> Q8
open UInt8 renaming ofNat -> Q9
namespace Go.Proofs.YtknohkmpficjgaaGreatDoor.Ax
open Go.RowKit Go By YtknohkmpficjgaaGreatDoor.Nm Sc Dg
set_option maxRecDepth 10000
def MQ (st : Sta) : List AV := [.v (.bool st.isSome), .sl 1 (ak (st.getD [])) none .no]
@[simp] theorem Lr (xs : List UInt8) : MQ (some xs) = [.v (.bool true), .sl 1 (ak xs) none .no] := rfl
@[simp] theorem Lq : MQ none = [.v (.bool false), .sl 1 (ak []) none .no] := rfl
section
variable (i : Nat) (h : List (List AV)) (st : Sta) (hi : h[i]? = some (MQ st))
include hi
end
section
variable (i : Nat) (h : List (List AV)) (st : Sta) (hi : h[i]? = some (MQ st))
include hi
end
abbrev Rs := List UInt8 × Bool
def Q6 (r : Rs) : List AV := [.sl 1 (ak r.1) none .no, .v (.bool r.2)]
def uf (r : Rs) : Sta := bif r.2 then none else some r.1
def Lm (b : List UInt8) : Sta -> Rs
 | some xs => (xs, false)
 | none => (b, true)
def ul (f : Sta -> Sta) (r : Rs) : Rs := Lm r.1 (f (uf r))
section
variable (i : Nat) (h : List (List AV)) (r : Rs) (hi : h[i]? = some (Q6 r))
include hi
end
def uh {α : Type} (v : Sta -> α) (s : Sta -> Sta) : Nat -> Sta -> List α × Sta
 | 0, st => ([], st)
 | k + 1, st => (v st :: (uh v s k (s st)).1, (uh v s k (s st)).2)
section
variable {α : Type} (v : Sta -> α) (s : Sta -> Sta)
end
def EP {α : Type} (v : Sta -> α) (s : Sta -> Sta) (st : Sta) : List α :=
 if (uh v s (kg st 2).toNat (la st 2)).2 = none then [] else (uh v s (kg st 2).toNat (la st 2)).1
def EO {α : Type} (v : Sta -> α) (s : Sta -> Sta) (st : Sta) : Sta := (uh v s (kg st 2).toNat (la st 2)).2
def EH (st : Sta) : Cl := if kg st 4 = 4294967295 then (true, []) else (false, Lx (la st 4) (kg st 4))
def EG (st : Sta) : Sta := if kg st 4 = 4294967295 then la st 4 else Fh (la st 4) (kg st 4)
def Fc {α : Type} (v : Sta -> α) (s : Sta -> Sta) : Nat -> Sta -> List α
 | 0, _ => []
 | k + 1, st => if st = none then [] else v st :: Fc v s k (s st)
def K5 {α : Type} (v : Sta -> α) (s : Sta -> Sta) (st : Sta) : List α := Fc v s (kg st 2).toNat (la st 2)
def P5 (q : Rs -> Rs) : Nat -> Rs -> Rs
 | 0, r => r
 | k + 1, r => P5 q k (q r)
def A9 (q : Rs -> Rs) (r : Rs) : Rs := P5 q (kg (uf r) 2).toNat (ul (la · 2) r)
section
variable {α : Type} (v : Sta -> α) (s : Sta -> Sta) (q : Rs -> Rs) (hq : ∀ r, uf (q r) = s (uf r)) (hb : ∀ r, uf r = none -> q r = r) (r : Rs) (n : Nat) (hn : kg (uf r) 2 = n)
include hq hn
end
def HH (r : Rs) : Rs := if kg (uf r) 4 = 4294967295 then ul (la · 4) r else ul (Fh · (kg (uf r) 4)) (ul (la · 4) r)
def bN (m : Fm) : List UInt8 :=
 if m.kind = 80 then em [m.name, m.text] ++ co (dq 4) m.oids
 else if m.kind = 66 then em [m.portal, m.name] ++ (co (dq 2) m.formats ++ (co dd m.params ++ co (dq 2) m.results))
 else if m.kind = 67 \/ m.kind = 68 then Q9 m.what.toNat :: em [m.name ++ m.portal]
 else if m.kind = 69 then bG (em [m.portal]) m.max 4
 else if m.kind = 81 then em [m.text]
 else []
abbrev numbersV (size : Int) (st : Sta) : List Int := EP (kg · size) (la · size) st
abbrev numbersS (size : Int) (st : Sta) : Sta := EO (kg · size) (la · size) st
abbrev cellsV (st : Sta) : List Cl := EP EH EG st
abbrev cellsS (st : Sta) : Sta := EO EH EG st
open He (textL)
end Go.Proofs.YtknohkmpficjgaaGreatDoor.Ax
namespace Go.Proofs.YtknohkmpficjgaaGreatDoor.Ax
open Go.RowKit Go By YtknohkmpficjgaaGreatDoor.Nm Sc Dg
set_option maxRecDepth 10000
open He (textL)
theorem kA (xs s : List UInt8) (hl : xs.length + (s.length + 1) <= 140737488355328) (h : List (List AV)) : ae Tryz.prog 123 [.sl 1 (ak xs) none (.own (.arg 0)), .v (.string (ah s))] h (.sl 1 (ak (xs ++ He.encT s)) none (.own .res)) h [] := by
 refine ac OD mixed (by simp [FX]) fun hh hargs => ?_
 simp [FX, hh, He.encT]
 omega
theorem fM (xs : List UInt8) (n size : Int) : bG xs n size = xs ++ bG [] n size := by
 unfold bG; split <;> simp
theorem sy (xs : List UInt8) (l : List Int) (size : Int) (hl : (xs ++ co (dq size) l).length <= 140737488351232) (hn : l.length <= 140737488355328) (h : List (List AV)) :
  ae Tryz.prog 122 [.sl 1 (ak xs) none .no, .sl 1 (al aN l) none .no, .v (.int .i64 size)] h (.sl 1 (ak (xs ++ co (dq size) l)) none (.own .res)) h [] := by
 refine ac OC mixed (by simp [FW]) fun hh hargs => ?_
 rw [Q7] at hl
 simp [FW]
 refine aa (by simp) (ky xs l.length 2 (by omega) h) ?_
 simp
 have e0 : bG xs l.length 2 = xs ++ (bG [] l.length 2 ++ (l.take 0).flatMap (dq size)) := by rw [fM]; simp
 rw [e0]
 refine ar (D := Nat) (fun j => ⟨[(1, .sl 1 (al aN l) none .no), (2, .v (.int .i64 size)), (7, .v (.int .i64 j))], [(0, .sl 1 (ak (xs ++ (bG [] l.length 2 ++ (l.take j).flatMap (dq size)))) none (.own (.slot 0)))], h, []⟩) (fun j => j <= l.length) (fun j => l.length - j) 0 (by simp) ?_ ?_
 ·simp [Leq, hh]
 ·intro j hj
  by_cases hlt : j < l.length
  ·have hw : IntKind.i64.wrap ((j : Int) + 1) = (j : Int) + 1 := wrap64 (by omega) (by omega)
   obtain ⟨hx, hb⟩ := qA (dq size) l (xs.length + (bG [] l.length 2).length) j hlt 140737488351232 (by simp only [co, Q7] at hl; omega)
   simp [hlt, aN, -Q8]
   refine ao (ky (xs ++ (bG [] l.length 2 ++ (l.take j).flatMap (dq size))) l[j] size (by simp only [Q7]; omega) h) (by simp) (by simp) ?_
   have e : bG (xs ++ (bG [] l.length 2 ++ (l.take j).flatMap (dq size))) l[j] size = xs ++ (bG [] l.length 2 ++ (l.take (j + 1)).flatMap (dq size)) := by
    rw [fM, hx]; simp [dq]
   rw [e]
   simp [hw]
   refine ⟨j + 1, by omega, by omega, ?_⟩
   simp [Leq, hh]
  ·have : j = l.length := by omega
   subst this
   simp [hh, co]
theorem DE : bG [] (-1) 4 = bG [] 4294967295 4 := by decide
theorem DZ (xs : List UInt8) (l : List Cl) (hl : (xs ++ co dd l).length <= 140737488351232) (hn : l.length <= 140737488355328) (h : List (List AV)) :
  ae Tryz.prog 124 [.sl 1 (ak xs) none .no, .sl 2 (al aq l) none .no] h (.sl 1 (ak (xs ++ co dd l)) none (.own .res)) h [] := by
 refine ac OE mixed (by simp [FY]) fun hh hargs => ?_
 rw [Q7] at hl
 simp [FY]
 refine aa (by simp) (ky xs l.length 2 (by omega) h) ?_
 simp
 have e0 : bG xs l.length 2 = xs ++ (bG [] l.length 2 ++ (l.take 0).flatMap dd) := by rw [fM]; simp
 rw [e0]
 refine ar (D := Nat) (fun j => ⟨[(1, .sl 2 (al aq l) none .no), (5, .v (.int .i64 j))], [(0, .sl 1 (ak (xs ++ (bG [] l.length 2 ++ (l.take j).flatMap dd))) none (.own (.slot 0)))], h, []⟩) (fun j => j <= l.length) (fun j => l.length - j) 0 (by simp) ?_ ?_
 ·simp [Leq, hh]
 ·intro j hj
  by_cases hlt : j < l.length
  ·have hw : IntKind.i64.wrap ((j : Int) + 1) = (j : Int) + 1 := wrap64 (by omega) (by omega)
   obtain ⟨hx, hb⟩ := qA dd l (xs.length + (bG [] l.length 2).length) j hlt 140737488351232 (by simp only [co, Q7] at hl; omega)
   obtain ⟨n, b, hc⟩ : ∃ n b, l[j] = (n, b) := ⟨_, _, rfl⟩
   rw [hc] at hx hb
   cases n with
   | true =>
    rw [nv] at hx hb
    have e : bG (xs ++ (bG [] l.length 2 ++ (l.take j).flatMap dd)) (-1) 4 = xs ++ (bG [] l.length 2 ++ (l.take (j + 1)).flatMap dd) := by
     rw [fM, hx, DE]; simp
    simp [hlt, hc, ci, -Q8]
    refine ao (ky (xs ++ (bG [] l.length 2 ++ (l.take j).flatMap dd)) (-1) 4 (by simp only [Q7]; omega) h) (by simp) (by simp) ?_
    rw [e]
    simp [hw]
    refine ⟨j + 1, by omega, by omega, ?_⟩
    simp [Leq, hh]
   | false =>
    rw [ml] at hx hb
    have e : bG (xs ++ (bG [] l.length 2 ++ (l.take j).flatMap dd)) b.length 4 ++ b = xs ++ (bG [] l.length 2 ++ (l.take (j + 1)).flatMap dd) := by
     rw [fM, hx]; simp
    have e2 : (bG (xs ++ (bG [] l.length 2 ++ (l.take j).flatMap dd)) b.length 4).length + b.length <= 140737488355328 := by
     rw [fM]; simp only [Q7] at hb ⊢; omega
    simp [hlt, hc, ci, -Q8]
    refine ao (ky (xs ++ (bG [] l.length 2 ++ (l.take j).flatMap dd)) b.length 4 (by simp only [Q7]; omega) h) (by simp) (by simp) ?_
    simp [hw, e2, -Q8]
    refine ⟨j + 1, by omega, by omega, ?_⟩
    rw [<- jw, e]
    simp [Leq, hh]
  ·have : j = l.length := by omega
   subst this
   simp [hh, co]
def qU (m : Fm) : Ms × Int := if bc m = 0 then (⟨m.kind, bN m⟩, 0) else (⟨0, []⟩, bc m)
theorem bI (a : List UInt8) : (He.encT a).length = a.length + 1 := by simp [He.encT]
theorem zn (m : Fm) (hf : nn m) (hw : 0 <= m.what /\ m.what < 256) (h : List (List AV)) (hb : (bN m).length <= 140737488351232) : ae Tryz.prog 72 [.agg (aG m)] h (.tup [.agg (vU (qU m).1), .v (.int .i64 (qU m).2)]) h [] := by
 have hf0 := hf
 obtain ⟨q1, q2, q3, q4, q5, q6, q7, q8⟩ := hf
 refine ac QU mixed (by simp [NJ]) fun hh hargs => ?_
 simp [NJ]
 refine aa (by simp) (BB m hf0 _) ?_
 by_cases he : bc m = 0
 ·have e0 : qU m = (⟨m.kind, bN m⟩, 0) := if_pos he
  rw [e0]
  by_cases h80 : m.kind = 80
  ·have e : bN m = (He.encT m.name ++ He.encT m.text) ++ co (dq 4) m.oids := by unfold bN; rw [if_pos h80]; simp [em]
   rw [e] at hb ⊢
   simp only [Q7, bI] at hb
   simp [he, h80, -Q8]
   refine ao (kA [] m.name (by simp; omega) _) (by simp) (by simp) ?_
   simp
   refine ao (kA (He.encT m.name) m.text (by rw [bI]; omega) _) (by simp) (by simp) ?_
   simp
   refine ao (sy (He.encT m.name ++ He.encT m.text) m.oids 4 (by simp only [Q7, bI]; omega) q1 _) (by simp) (by simp) ?_
   simp [hh, iT, h80]
  by_cases h66 : m.kind = 66
  ·have e : bN m = (((He.encT m.portal ++ He.encT m.name) ++ co (dq 2) m.formats) ++ co dd m.params) ++ co (dq 2) m.results := by unfold bN; rw [if_neg h80, if_pos h66]; simp [em]
   rw [e] at hb ⊢
   simp only [Q7, bI] at hb
   simp [he, h66, -Q8]
   refine ao (kA [] m.portal (by simp; omega) _) (by simp) (by simp) ?_
   simp
   refine ao (kA (He.encT m.portal) m.name (by rw [bI]; omega) _) (by simp) (by simp) ?_
   simp
   refine ao (sy (He.encT m.portal ++ He.encT m.name) m.formats 2 (by simp only [Q7, bI]; omega) q2 _) (by simp) (by simp) ?_
   simp
   refine ao (DZ ((He.encT m.portal ++ He.encT m.name) ++ co (dq 2) m.formats) m.params (by simp only [Q7, bI]; omega) q4 _) (by simp) (by simp) ?_
   simp
   refine ao (sy (((He.encT m.portal ++ He.encT m.name) ++ co (dq 2) m.formats) ++ co dd m.params) m.results 2 (by simp only [Q7, bI]; omega) q3 _) (by simp) (by simp) ?_
   simp [hh, iT, h66]
  have hw3 : max m.what 0 % 256 = m.what := by omega
  by_cases h678 : m.kind = 67 \/ m.kind = 68
  ·have e : bN m = [Q9 m.what.toNat] ++ He.encT (m.name ++ m.portal) := by unfold bN; rw [if_neg h80, if_neg h66, if_pos h678]; simp [em]
   rw [e] at hb ⊢
   simp only [Q7, bI, List.length_singleton] at hb
   rcases h678 with h67 | h67
   all_goals
    simp [he, h67]
    refine ⟨by omega, ?_⟩
    refine ao (kA [Q9 m.what.toNat] (m.name ++ m.portal) (by simp; omega) _) (by simp [hw3]) (by simp) ?_
    simp [hh, iT, h67, hw3]
  have h67 : ¬ m.kind = 67 := fun h => h678 (.inl h)
  have h68 : ¬ m.kind = 68 := fun h => h678 (.inr h)
  by_cases h69 : m.kind = 69
  ·have e : bN m = bG (He.encT m.portal) m.max 4 := by unfold bN; rw [if_neg h80, if_neg h66, if_neg h678, if_pos h69]; simp [em]
   rw [e] at hb ⊢
   rw [fM, Q7, bI] at hb
   simp [he, h69]
   refine ao (kA [] m.portal (by simp; omega) _) (by simp) (by simp) ?_
   simp
   refine ao (ky (He.encT m.portal) m.max 4 (by rw [bI]; omega) _) (by simp) (by simp) ?_
   simp [hh, iT, h69]
  by_cases h81 : m.kind = 81
  ·have e : bN m = He.encT m.text := by unfold bN; rw [if_neg h80, if_neg h66, if_neg h678, if_neg h69, if_pos h81]; simp [em]
   rw [e] at hb ⊢
   rw [bI] at hb
   simp [he, h81]
   refine ao (kA [] m.text (by simp; omega) _) (by simp) (by simp) ?_
   simp [hh, iT, h81]
  have e : bN m = [] := by unfold bN; rw [if_neg h80, if_neg h66, if_neg h678, if_neg h69, if_neg h81]
  rw [e]
  simp [he, h80, h66, h67, h68, h69, h81, hh, iT]
 ·simp [he, hh, qU, iT]
abbrev rnumbersQ (size : Int) (r : Rs) : Rs := A9 (ul (la · size)) r
abbrev rcellsQ (r : Rs) : Rs := A9 HH r
abbrev numbersU (size : Int) (st : Sta) : List Int := K5 (kg · size) (la · size) st
end Go.Proofs.YtknohkmpficjgaaGreatDoor.Ax
