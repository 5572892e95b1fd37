import Derived.Test.YtdfgljojemmlcaaGreatQAxPf
set_option linter.unusedSimpArgs false
set_option linter.unusedVariables false
open List renaming length_append -> Q0, append_assoc -> Q1
namespace Go.Proofs.YtdfgljojemmlcaaGreat.Ax
open Go.RowKit Go By Go.Proofs.YtdfgljojemmlcaaGreat.Nm Sc Dg
set_option maxRecDepth 10000
def uT {α : Type} (v : Sta -> α) (s : Sta -> Sta) : Nat -> Sta -> List α × Sta
 | 0, st => ([], st)
 | k + 1, st => (v st :: (uT v s k (s st)).1, (uT v s k (s st)).2)
section
variable {α : Type} (v : Sta -> α) (s : Sta -> Sta)
end
def D6 {α : Type} (v : Sta -> α) (s : Sta -> Sta) (st : Sta) : List α :=
 if (uT v s (lc st 2).toNat (lL st 2)).2 = none then [] else (uT v s (lc st 2).toNat (lL st 2)).1
def Ec {α : Type} (v : Sta -> α) (s : Sta -> Sta) (st : Sta) : Sta := (uT v s (lc st 2).toNat (lL st 2)).2
def DR (st : Sta) : Cl := if lc st 4 = 4294967295 then (true, []) else (false, J4 (lL st 4) (lc st 4))
def D9 (st : Sta) : Sta := if lc st 4 = 4294967295 then lL st 4 else Ee (lL st 4) (lc st 4)
def DW {α : Type} (v : Sta -> α) (s : Sta -> Sta) : Nat -> Sta -> List α
 | 0, _ => []
 | k + 1, st => if st = none then [] else v st :: DW v s k (s st)
def Jx {α : Type} (v : Sta -> α) (s : Sta -> Sta) (st : Sta) : List α := DW v s (lc st 2).toNat (lL st 2)
def PM (q : Rs -> Rs) : Nat -> Rs -> Rs
 | 0, r => r
 | k + 1, r => PM q k (q r)
def Bg (q : Rs -> Rs) (r : Rs) : Rs := PM q (lc (tZ r) 2).toNat (td (lL · 2) r)
section
variable {α : Type} (v : Sta -> α) (s : Sta -> Sta) (q : Rs -> Rs) (hq : ∀ r, tZ (q r) = s (tZ r)) (hb : ∀ r, tZ r = none -> q r = r) (r : Rs) (n : Nat) (hn : lc (tZ r) 2 = n)
include hq hn
end
def GW (r : Rs) : Rs := if lc (tZ r) 4 = 4294967295 then td (lL · 4) r else td (Ee · (lc (tZ r) 4)) (td (lL · 4) r)
def po (b : List UInt8) : List AV := [.sl 1 (af b) none .no]
@[simp] theorem IP (n : Nat) (l : List (List UInt8)) : aw n (ai po l) := cp po n (fun _ => by simp [po]) l
def lQ (l : List (List UInt8)) : List UInt8 := l.flatMap id
theorem rk (l : List (List UInt8)) (a j : Nat) (hj : j < l.length) (N : Nat) (hN : a + (lQ l).length <= N) : lQ (l.take (j + 1)) = lQ (l.take j) ++ l[j] /\ a + ((lQ (l.take j)).length + l[j].length) <= N := cK id l a j hj N hN
@[simp] theorem KM : lQ [] = [] := of_eq_true (eq_self _)
@[simp] theorem I7 (x : List UInt8) (l : List (List UInt8)) : lQ (x :: l) = x ++ lQ l := of_eq_true (eq_self _)
theorem uL (l : List (List UInt8)) (h : List (List AV)) (hl : (lQ l).length <= 140737488355328) (hn : l.length <= 140737488355328) : Contract Tryz.prog 149 [.sl 1 (ai po l) none .no] h (.sl 1 (af (lQ l)) none (.own .res)) h [] := by
 refine ab OX mixed (by simp [Fh]) fun hh hargs => ?_
 simp [Fh]
 refine am (D := Nat) (fun j => ⟨[(0, .sl 1 (ai po l) none .no), (3, .v (.int .i64 (lQ (l.take j)).length)), (9, .sl 1 (ai po l) none .no), (10, .v (.int .i64 l.length)), (11, .v (.int .i64 j))], [], h, []⟩) (fun j => j <= l.length) (fun j => l.length - j) 0 (by simp) ?_ ?_
 ·simp [Leq, hh]
 ·intro j hj
  by_cases hlt : j < l.length
  ·have hw : IntKind.i64.wrap ((j : Int) + 1) = (j : Int) + 1 := wrap64 (by omega) (by omega)
   obtain ⟨hx, hb⟩ := rk l 0 j hlt _ (by simpa using hl)
   have hw2 : IntKind.i64.wrap (((lQ (l.take j)).length : Int) + (l[j].length : Int)) = ((lQ (l.take (j + 1))).length : Int) := by
    rw [hx, Q0, wrap64 (by omega) (by omega)]; simp
   have h0 : ¬ ((lQ (l.take (j + 1))).length : Int) < 0 := by omega
   simp [hlt, po, hw, hw2, h0]
   refine ⟨j + 1, by omega, by omega, ?_⟩
   simp [Leq, hh]
  ·have : j = l.length := by omega
   subst this
   simp
   refine aa (by simp) (Fq _ hl h) ?_
   simp
   refine am (D := Nat) (fun j => ⟨[(25, .sl 1 (ai po l) none .no), (26, .v (.int .i64 l.length)), (27, .v (.int .i64 j))], [(6, .sl 1 (af (lQ (l.take j))) none (.own (.slot 6)))], h, []⟩) (fun j => j <= l.length) (fun j => l.length - j) 0 (by simp) ?_ ?_
   ·simp [Leq, hh]
   ·intro j hj
    by_cases hlt : j < l.length
    ·have hw : IntKind.i64.wrap ((j : Int) + 1) = (j : Int) + 1 := wrap64 (by omega) (by omega)
     obtain ⟨hx, hb⟩ := rk l 0 j hlt _ (by simpa using hl)
     simp [hlt, po, hw]
     refine ⟨by omega, j + 1, by omega, by omega, ?_⟩
     simp [Leq, hh, hx]
    ·have : j = l.length := by omega
     subst this
     simp [hh]
abbrev numbersV (size : Int) (st : Sta) : List Int := D6 (lc · size) (lL · size) st
abbrev numbersS (size : Int) (st : Sta) : Sta := Ec (lc · size) (lL · size) st
abbrev cellsV (st : Sta) : List Cl := D6 DR D9 st
abbrev cellsS (st : Sta) : Sta := Ec DR D9 st
open He (textL)
end Go.Proofs.YtdfgljojemmlcaaGreat.Ax
namespace Go.Proofs.YtdfgljojemmlcaaGreat.Ax
open Go.RowKit Go By Go.Proofs.YtdfgljojemmlcaaGreat.Nm Sc Dg
set_option maxRecDepth 10000
open He (textL)
theorem pu (xs s : List UInt8) (hl : xs.length + (s.length + 1) <= 140737488355328) (h : List (List AV)) : Contract Tryz.prog 107 [.sl 1 (af xs) none (.own (.arg 0)), .v (.string (ah s))] h (.sl 1 (af (xs ++ He.encT s)) none (.own .res)) h [] := by
 refine ab NA mixed (by simp [FU]) fun hh hargs => ?_
 simp [FU, hh, He.encT]
 omega
theorem gI (xs : List UInt8) (n size : Int) : bo xs n size = xs ++ bo [] n size := by
 unfold bo; split <;> simp
theorem CW (xs : List UInt8) (l : List Int) (size : Int) (hl : (xs ++ bV (aB size) l).length <= 140737488351232) (hn : l.length <= 140737488355328) (h : List (List AV)) :
  Contract Tryz.prog 110 [.sl 1 (af xs) none .no, .sl 1 (ai ao l) none .no, .v (.int .i64 size)] h (.sl 1 (af (xs ++ bV (aB size) l)) none (.own .res)) h [] := by
 refine ab OO mixed (by simp [ER]) fun hh hargs => ?_
 rw [Q0] at hl
 simp [ER]
 refine aa (by simp) (cY xs l.length 2 (by omega) h) ?_
 simp
 have e0 : bo xs l.length 2 = xs ++ (bo [] l.length 2 ++ (l.take 0).flatMap (aB size)) := by rw [gI]; simp
 rw [e0]
 refine am (D := Nat) (fun j => ⟨[(1, .sl 1 (ai ao l) none .no), (2, .v (.int .i64 size)), (7, .v (.int .i64 j))], [(0, .sl 1 (af (xs ++ (bo [] l.length 2 ++ (l.take j).flatMap (aB size)))) none (.own (.slot 0)))], h, []⟩) (fun j => j <= l.length) (fun j => l.length - j) 0 (by simp) ?_ ?_
 ·simp [Leq, hh]
 ·intro j hj
  by_cases hlt : j < l.length
  ·have hw : IntKind.i64.wrap ((j : Int) + 1) = (j : Int) + 1 := wrap64 (by omega) (by omega)
   obtain ⟨hx, hb⟩ := cK (aB size) l (xs.length + (bo [] l.length 2).length) j hlt 140737488351232 (by simp only [bV, Q0] at hl; omega)
   simp [hlt, ao, -Q1]
   refine aj (cY (xs ++ (bo [] l.length 2 ++ (l.take j).flatMap (aB size))) l[j] size (by simp only [Q0]; omega) h) (by simp) (by simp) ?_
   have e : bo (xs ++ (bo [] l.length 2 ++ (l.take j).flatMap (aB size))) l[j] size = xs ++ (bo [] l.length 2 ++ (l.take (j + 1)).flatMap (aB size)) := by
    rw [gI, hx]; simp [aB]
   rw [e]
   simp [hw]
   refine ⟨j + 1, by omega, by omega, ?_⟩
   simp [Leq, hh]
  ·have : j = l.length := by omega
   subst this
   simp [hh, bV]
theorem BR : bo [] (-1) 4 = bo [] 4294967295 4 := by decide
theorem C5 (xs : List UInt8) (l : List Cl) (hl : (xs ++ bV eg l).length <= 140737488351232) (hn : l.length <= 140737488355328) (h : List (List AV)) :
  Contract Tryz.prog 108 [.sl 1 (af xs) none .no, .sl 2 (ai aC l) none .no] h (.sl 1 (af (xs ++ bV eg l)) none (.own .res)) h [] := by
 refine ab M1 mixed (by simp [Gp]) fun hh hargs => ?_
 rw [Q0] at hl
 simp [Gp]
 refine aa (by simp) (cY xs l.length 2 (by omega) h) ?_
 simp
 have e0 : bo xs l.length 2 = xs ++ (bo [] l.length 2 ++ (l.take 0).flatMap eg) := by rw [gI]; simp
 rw [e0]
 refine am (D := Nat) (fun j => ⟨[(1, .sl 2 (ai aC l) none .no), (5, .v (.int .i64 j))], [(0, .sl 1 (af (xs ++ (bo [] l.length 2 ++ (l.take j).flatMap eg))) none (.own (.slot 0)))], h, []⟩) (fun j => j <= l.length) (fun j => l.length - j) 0 (by simp) ?_ ?_
 ·simp [Leq, hh]
 ·intro j hj
  by_cases hlt : j < l.length
  ·have hw : IntKind.i64.wrap ((j : Int) + 1) = (j : Int) + 1 := wrap64 (by omega) (by omega)
   obtain ⟨hx, hb⟩ := cK eg l (xs.length + (bo [] l.length 2).length) j hlt 140737488351232 (by simp only [bV, Q0] at hl; omega)
   obtain ⟨n, b, hc⟩ : ∃ n b, l[j] = (n, b) := ⟨_, _, rfl⟩
   rw [hc] at hx hb
   cases n with
   | true =>
    rw [pr] at hx hb
    have e : bo (xs ++ (bo [] l.length 2 ++ (l.take j).flatMap eg)) (-1) 4 = xs ++ (bo [] l.length 2 ++ (l.take (j + 1)).flatMap eg) := by
     rw [gI, hx, BR]; simp
    simp [hlt, hc, dk, -Q1]
    refine aj (cY (xs ++ (bo [] l.length 2 ++ (l.take j).flatMap eg)) (-1) 4 (by simp only [Q0]; omega) h) (by simp) (by simp) ?_
    rw [e]
    simp [hw]
    refine ⟨j + 1, by omega, by omega, ?_⟩
    simp [Leq, hh]
   | false =>
    rw [nE] at hx hb
    have e : bo (xs ++ (bo [] l.length 2 ++ (l.take j).flatMap eg)) b.length 4 ++ b = xs ++ (bo [] l.length 2 ++ (l.take (j + 1)).flatMap eg) := by
     rw [gI, hx]; simp
    have e2 : (bo (xs ++ (bo [] l.length 2 ++ (l.take j).flatMap eg)) b.length 4).length + b.length <= 140737488355328 := by
     rw [gI]; simp only [Q0] at hb ⊢; omega
    simp [hlt, hc, dk, -Q1]
    refine aj (cY (xs ++ (bo [] l.length 2 ++ (l.take j).flatMap eg)) b.length 4 (by simp only [Q0]; omega) h) (by simp) (by simp) ?_
    simp [hw, e2, -Q1]
    refine ⟨j + 1, by omega, by omega, ?_⟩
    rw [<- aT, e]
    simp [Leq, hh]
  ·have : j = l.length := by omega
   subst this
   simp [hh, bV]
theorem ir (a : List UInt8) : (He.encT a).length = a.length + 1 := by simp [He.encT]
abbrev rnumbersQ (size : Int) (r : Rs) : Rs := Bg (td (lL · size)) r
abbrev rcellsQ (r : Rs) : Rs := Bg GW r
abbrev numbersU (size : Int) (st : Sta) : List Int := Jx (lc · size) (lL · size) st
end Go.Proofs.YtdfgljojemmlcaaGreat.Ax
