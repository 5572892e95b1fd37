import Derived.Test.YtknohkmpficjgaaGreatDoorQAxXr
set_option linter.unusedSimpArgs false
set_option linter.unusedVariables false
open List renaming flatten_cons -> Q7, findIdx?_eq_some_iff_getElem -> Q8, findIdx?_eq_none_iff -> Q9, getElem_mem -> Ra, length_cons -> Rb, take_of_length_le -> Rc, take_left' -> Rf, drop_zero -> Rg
open Nat renaming lt_or_ge -> Re, succ_mul -> Rh
namespace Go.Proofs.YtknohkmpficjgaaGreatDoor.Ax
open Go.RowKit Go By
set_option maxRecDepth 10000
theorem qt {α : Sort _} {a : α} : a = a := of_eq_true (eq_self a)
def sa {α : Type} (p : α -> Bool) (l : List α) : Int := match l.findIdx? p with | some i => (i : Int) | none => -1
theorem xp {α : Type} {p : α -> Bool} {xs : List α} {j : Nat} (hj : j < xs.length) (h1 : ∀ x ∈ xs.take j, p x = false) (h2 : p xs[j] = true) : sa p xs = j := by
 have : xs.findIdx? p = some j := by
  rw [Q8]
  refine ⟨hj, h2, fun k hk => ?_⟩
  have := h1 xs[k] (List.mem_take_iff_getElem.2 ⟨k, by omega, rfl⟩)
  simp [this]
 unfold sa; rw [this]
theorem qD {α : Type} {p : α -> Bool} {xs : List α} (h1 : ∀ x ∈ xs, p x = false) : sa p xs = -1 := by
 have : xs.findIdx? p = none := by
  rw [Q9]; exact h1
 unfold sa; rw [this]
theorem tM {α : Type} (p : α -> Bool) (xs : List α) : decide (0 <= sa p xs) = xs.any p := by
 cases h : xs.findIdx? p with
 | none =>
  have h1 := Q9.1 h
  have h2 : xs.any p = false := by simpa using h1
  unfold sa; rw [h, h2]; rfl
 | some i =>
  obtain ⟨hi, h1, _⟩ := Q8.1 h
  have h2 : xs.any p = true := List.any_eq_true.2 ⟨_, Ra hi, h1⟩
  unfold sa; rw [h, h2]; simp
theorem rk {α : Type} {p : α -> Bool} {xs : List α} {j : Nat} (hj : j < xs.length) (h1 : ∀ x ∈ xs.take j, p x = false) (h2 : p xs[j] = false) : ∀ x ∈ xs.take (j + 1), p x = false := by
 rw [eN hj]
 intro x hx
 rcases List.mem_append.1 hx with h | h
 ·exact h1 x h
 ·simp at h; subst h; exact h2
def eI (f : FuncId) : XFun := ⟨9, (.seq (.ops [⟨(some 4), (.assign (.const (.bool false))), none⟩]) (.seq (.ops [⟨(some 5), (.move (.tmp 0)), none⟩, ⟨(some 6), (.move (.tmp 1)), none⟩, ⟨(some 7), (.call f [(.tmp 5), (.tmp 6)]), none⟩, ⟨(some 8), (.bin .geq (.tmp 7) (.const (.int .i64 0))), none⟩, ⟨(some 4), (.assign (.tmp 8)), none⟩]) .ret)), [(.move (.tmp 4))]⟩
def sb : XFun := ⟨19, (.seq (.ops [⟨(some 4), (.assign (.const (.int .i64 0))), none⟩]) (.seq (.seq (.ops [⟨(some 6), (.move (.tmp 0)), none⟩, ⟨(some 7), (.lenL (.tmp 6)), none⟩, ⟨(some 8), (.move (.const (.int .i64 0))), none⟩]) (.block 0 (.loop (.seq (.ops [⟨(some 9), (.bin .lss (.tmp 8) (.tmp 7)), none⟩]) (.seq (.cond (.tmp 9) .skip (.exit 0)) (.seq (.block 1 (.seq (.ops [⟨(some 10), (.move (.tmp 8)), none⟩, ⟨(some 5), (.assign (.tmp 10)), none⟩]) (.seq (.ops [⟨(some 11), (.move (.tmp 1)), none⟩, ⟨(some 12), (.move (.tmp 0)), none⟩, ⟨(some 13), (.move (.tmp 5)), none⟩, ⟨(some 14), (.iaddr 1 (.tmp 12) (.tmp 13)), none⟩, ⟨(some 15), (.load1 (.tmp 14)), none⟩, ⟨(some 16), (.callv (.tmp 11) [(.tmp 15)]), none⟩]) (.cond (.tmp 16) (.seq (.ops [⟨(some 17), (.move (.tmp 5)), none⟩, ⟨(some 4), (.assign (.tmp 17)), none⟩]) .ret) .skip)))) (.ops [⟨(some 18), (.bin .add (.tmp 8) (.const (.int .i64 1))), none⟩, ⟨(some 8), (.move (.tmp 18)), none⟩]))))))) (.seq (.ops [⟨(some 4), (.assign (.const (.int .i64 (-1)))), none⟩]) .ret))), [(.move (.tmp 4))]⟩
theorem vG {P : Program} (hm : P.follows .mixedOrders = true) {f g : FuncId} (hf : ai P f = some (sb)) {α : Type} (c : α -> AV) (p : α -> Bool) (xs : List α) (cap : List AV) (h : List (List AV)) (hcap : ∀ c ∈ cap, c.idOf = none) (hc : ∀ x, (c x).idOf = none) (hu : ∀ x, (c x).unown = c x)
  (hg : ∀ x, x ∈ xs -> ae P g ((c x) :: cap) h (.v (.bool (p x))) h []) (hl : xs.length <= 140737488355328) :
  ae P f [.sl 1 (al (fun x => [c x]) xs) none .no, .fn (.func g) [] cap] h (.v (.int .i64 (sa p xs))) h [] := by
 refine ac hf hm (by simp [sb]) fun hh hargs => ?_
 simp at hargs
 simp [sb]
 refine ar (D := Nat) (fun j => ⟨[(0, .sl 1 (al (fun x => [c x]) xs) none .no), (1, .fn (.func g) [] cap), (7, .v (.int .i64 xs.length)), (8, .v (.int .i64 j))], [], h, []⟩) (fun j => j <= xs.length /\ ∀ x ∈ xs.take j, p x = false) (fun j => xs.length - j) 0 (by simp) ?_ ?_
 ·simp [Leq, hh, hargs]
 ·rintro j ⟨hj, hp⟩
  simp
  refine bh (decide (j < xs.length)) (by simp) (fun hlt => ?_) (fun hge => ?_)
  ·simp at hlt
   have hq : ∀ y ∈ (c xs[j]) :: cap, y.idOf = none := by simpa [hc] using hcap
   have hw : IntKind.i64.wrap ((j : Int) + 1) = (j : Int) + 1 := wrap64 (by omega) (by omega)
   simp [hlt, hc, hu]
   refine ⟨hcap, aa hq (hg xs[j] (Ra _)) ?_⟩
   simp [gU hq]
   refine bh (p xs[j]) (by simp) (fun ht => ?_) (fun hf' => ?_)
   ·simp [hh, xp hlt hp ht]
   ·simp
    refine ⟨j + 1, ⟨by omega, rk hlt hp hf'⟩, by omega, ?_⟩
    simp [Leq, hh, hargs, hw]
  ·simp at hge
   have hj' : j = xs.length := by omega
   subst hj'
   simp at hp
   simp [hh, qD hp]
theorem ga {P : Program} (hm : P.follows .mixedOrders = true) {f f2 g : FuncId} (hf : ai P f = some (eI f2)) (hf2 : ai P f2 = some (sb)) {α : Type} (c : α -> AV) (p : α -> Bool) (xs : List α) (cap : List AV) (h : List (List AV)) (hcap : ∀ c ∈ cap, c.idOf = none) (hc : ∀ x, (c x).idOf = none) (hu : ∀ x, (c x).unown = c x)
  (hg : ∀ x, x ∈ xs -> ae P g ((c x) :: cap) h (.v (.bool (p x))) h []) (hl : xs.length <= 140737488355328) :
  ae P f [.sl 1 (al (fun x => [c x]) xs) none .no, .fn (.func g) [] cap] h (.v (.bool (xs.any p))) h [] := by
 refine ac hf hm (by simp [eI]) fun hh hargs => ?_
 simp [eI]
 refine aa (by simp) (vG hm hf2 c p xs cap h hcap hc hu hg hl) ?_
 simp [hh, tM]
def sc (k : Nat) : XFun := ⟨19, (.seq (.ops [⟨(some 4), (.assign (.const (.int .i64 0))), none⟩]) (.seq (.seq (.ops [⟨(some 6), (.move (.tmp 0)), none⟩, ⟨(some 7), (.lenL (.tmp 6)), none⟩, ⟨(some 8), (.move (.const (.int .i64 0))), none⟩]) (.block 0 (.loop (.seq (.ops [⟨(some 9), (.bin .lss (.tmp 8) (.tmp 7)), none⟩]) (.seq (.cond (.tmp 9) .skip (.exit 0)) (.seq (.block 1 (.seq (.ops [⟨(some 10), (.move (.tmp 8)), none⟩, ⟨(some 5), (.assign (.tmp 10)), none⟩]) (.seq (.ops [⟨(some 11), (.move (.tmp 1)), none⟩, ⟨(some 12), (.move (.tmp 0)), none⟩, ⟨(some 13), (.move (.tmp 5)), none⟩, ⟨(some 14), (.iaddr k (.tmp 12) (.tmp 13)), none⟩, ⟨(some 15), (.loadN k (.tmp 14)), none⟩, ⟨(some 16), (.callv (.tmp 11) [(.tmp 15)]), none⟩]) (.cond (.tmp 16) (.seq (.ops [⟨(some 17), (.move (.tmp 5)), none⟩, ⟨(some 4), (.assign (.tmp 17)), none⟩]) .ret) .skip)))) (.ops [⟨(some 18), (.bin .add (.tmp 8) (.const (.int .i64 1))), none⟩, ⟨(some 8), (.move (.tmp 18)), none⟩]))))))) (.seq (.ops [⟨(some 4), (.assign (.const (.int .i64 (-1)))), none⟩]) .ret))), [(.move (.tmp 4))]⟩
theorem vH {P : Program} (hm : P.follows .mixedOrders = true) {f g : FuncId} {k : Nat} (hf : ai P f = some (sc k)) {α : Type} (c : α -> List AV) (p : α -> Bool) (xs : List α) (cap : List AV) (h : List (List AV)) (hcap : ∀ c ∈ cap, c.idOf = none) (hc : ∀ x, (c x).length = k) (hu : ∀ x, (c x).map AV.unown = c x)
  (hg : ∀ x, x ∈ xs -> ae P g ((.agg (c x)) :: cap) h (.v (.bool (p x))) h []) (hl : xs.length <= 140737488355328) :
  ae P f [.sl k (al c xs) none .no, .fn (.func g) [] cap] h (.v (.int .i64 (sa p xs))) h [] := by
 refine ac hf hm (by simp [sc]) fun hh hargs => ?_
 simp at hargs
 simp [sc]
 refine ar (D := Nat) (fun j => ⟨[(0, .sl k (al c xs) none .no), (1, .fn (.func g) [] cap), (7, .v (.int .i64 xs.length)), (8, .v (.int .i64 j))], [], h, []⟩) (fun j => j <= xs.length /\ ∀ x ∈ xs.take j, p x = false) (fun j => xs.length - j) 0 (by simp) ?_ ?_
 ·simp [Leq, hh, hargs]
 ·rintro j ⟨hj, hp⟩
  simp
  refine bh (decide (j < xs.length)) (by simp) (fun hlt => ?_) (fun hge => ?_)
  ·simp at hlt
   have hq : ∀ y ∈ (.agg (c xs[j])) :: cap, y.idOf = none := by simpa using hcap
   have hw : IntKind.i64.wrap ((j : Int) + 1) = (j : Int) + 1 := wrap64 (by omega) (by omega)
   simp [hlt, hc, hu]
   refine ⟨hcap, aa hq (hg xs[j] (Ra _)) ?_⟩
   simp [gU hq]
   refine bh (p xs[j]) (by simp) (fun ht => ?_) (fun hf' => ?_)
   ·simp [hh, xp hlt hp ht]
   ·simp
    refine ⟨j + 1, ⟨by omega, rk hlt hp hf'⟩, by omega, ?_⟩
    simp [Leq, hh, hargs, hw]
  ·simp at hge
   have hj' : j = xs.length := by omega
   subst hj'
   simp at hp
   simp [hh, qD hp]
theorem bW {P : Program} (hm : P.follows .mixedOrders = true) {f f2 g : FuncId} {k : Nat} (hf : ai P f = some (eI f2)) (hf2 : ai P f2 = some (sc k)) {α : Type} (c : α -> List AV) (p : α -> Bool) (xs : List α) (cap : List AV) (h : List (List AV)) (hcap : ∀ c ∈ cap, c.idOf = none) (hc : ∀ x, (c x).length = k) (hu : ∀ x, (c x).map AV.unown = c x)
  (hg : ∀ x, x ∈ xs -> ae P g ((.agg (c x)) :: cap) h (.v (.bool (p x))) h []) (hl : xs.length <= 140737488355328) :
  ae P f [.sl k (al c xs) none .no, .fn (.func g) [] cap] h (.v (.bool (xs.any p))) h [] := by
 refine ac hf hm (by simp [eI]) fun hh hargs => ?_
 simp [eI]
 refine aa (by simp) (vH hm hf2 c p xs cap h hcap hc hu hg hl) ?_
 simp [hh, tM]
def kQ {α : Type} (e : α -> α -> Bool) : List α -> List α -> Bool
 | [], [] => true
 | x :: r, y :: q => e x y && kQ e r q
 | _, _ => false
theorem fD {α : Type} (e : α -> α -> Bool) : ∀ (xs ys : List α), kQ e xs ys = true ↔ xs.length = ys.length /\ ∀ i (h1 : i < xs.length) (h2 : i < ys.length), e xs[i] ys[i] = true
 | [], [] => by simp [kQ]
 | [], _ :: _ => by simp [kQ]
 | _ :: _, [] => by simp [kQ]
 | x :: r, y :: q => by
  simp only [kQ, Bool.and_eq_true, fD e r q, Rb]
  constructor
  ·rintro ⟨h1, h2, h3⟩
   refine ⟨by omega, fun i hi hj => ?_⟩
   cases i with
   | zero => exact h1
   | succ i => exact h3 i (by simpa using hi) (by simpa using hj)
  ·rintro ⟨h1, h2⟩
   exact ⟨h2 0 (by simp) (by simp), by omega, fun i hi hj => h2 (i + 1) (by simpa using hi) (by simpa using hj)⟩
theorem nJ {α : Type} {e : α -> α -> Bool} {xs ys : List α} {i : Nat} (h1 : i < xs.length) (h2 : i < ys.length) (h : e xs[i] ys[i] = false) : kQ e xs ys = false := by
 cases hh : kQ e xs ys with
 | false => rfl
 | true => have := ((fD e xs ys).1 hh).2 i h1 h2; rw [h] at this; cases this
theorem kR {α : Type} {e : α -> α -> Bool} {xs ys : List α} (h : xs.length ≠ ys.length) : kQ e xs ys = false := by
 cases hh : kQ e xs ys with
 | false => rfl
 | true => exact absurd ((fD e xs ys).1 hh).1 h
theorem gR {α : Type} [BEq α] [LawfulBEq α] : ∀ (xs ys : List α), kQ (· == ·) xs ys = (xs == ys)
 | [], [] => rfl
 | [], _ :: _ => rfl
 | _ :: _, [] => rfl
 | x :: r, y :: q => by simp [kQ, gR r q]
def rR : XFun := ⟨26, (.seq (.ops [⟨(some 4), (.assign (.const (.bool false))), none⟩]) (.seq (.seq (.ops [⟨(some 6), (.move (.tmp 0)), none⟩, ⟨(some 7), (.lenL (.tmp 6)), none⟩, ⟨(some 8), (.move (.tmp 1)), none⟩, ⟨(some 9), (.lenL (.tmp 8)), none⟩, ⟨(some 10), (.bin .neq (.tmp 7) (.tmp 9)), none⟩]) (.cond (.tmp 10) (.seq (.ops [⟨(some 4), (.assign (.const (.bool false))), none⟩]) .ret) .skip)) (.seq (.seq (.ops [⟨(some 11), (.move (.tmp 0)), none⟩, ⟨(some 12), (.lenL (.tmp 11)), none⟩, ⟨(some 13), (.move (.const (.int .i64 0))), none⟩]) (.block 0 (.loop (.seq (.ops [⟨(some 14), (.bin .lss (.tmp 13) (.tmp 12)), none⟩]) (.seq (.cond (.tmp 14) .skip (.exit 0)) (.seq (.block 1 (.seq (.ops [⟨(some 15), (.move (.tmp 13)), none⟩, ⟨(some 5), (.assign (.tmp 15)), none⟩]) (.seq (.draws (.take ⟨(some 16), (.move (.tmp 0)), none⟩ (.take ⟨(some 17), (.move (.tmp 5)), none⟩ (.take ⟨(some 18), (.iaddr 1 (.tmp 16) (.tmp 17)), none⟩ (.take ⟨(some 19), (.load1 (.tmp 18)), none⟩ (.take ⟨(some 20), (.move (.tmp 1)), none⟩ (.take ⟨(some 21), (.move (.tmp 5)), none⟩ (.take ⟨(some 22), (.iaddr 1 (.tmp 20) (.tmp 21)), none⟩ (.take ⟨(some 23), (.load1 (.tmp 22)), none⟩ (.take ⟨(some 24), (.bin .neq (.tmp 19) (.tmp 23)), none⟩ .done)))))))))) (.cond (.tmp 24) (.seq (.ops [⟨(some 4), (.assign (.const (.bool false))), none⟩]) .ret) .skip)))) (.ops [⟨(some 25), (.bin .add (.tmp 13) (.const (.int .i64 1))), none⟩, ⟨(some 13), (.move (.tmp 25)), none⟩]))))))) (.seq (.ops [⟨(some 4), (.assign (.const (.bool true))), none⟩]) .ret)))), [(.move (.tmp 4))]⟩
theorem vq {P : Program} (hm : P.follows .mixedOrders = true) {f : FuncId} (hf : ai P f = some (rR)) (xs ys : List Int) (h : List (List AV)) (hl : xs.length <= 140737488355328) :
  ae P f [.sl 1 (al aN xs) none .no, .sl 1 (al aN ys) none .no] h (.v (.bool (kQ (· == ·) xs ys))) h [] := by
 refine ac hf hm (by simp [rR]) fun hh hargs => ?_
 simp at hargs
 by_cases hlen : xs.length = ys.length
 ·simp [rR, hlen]
  refine ar (D := Nat) (fun j => ⟨[(0, .sl 1 (al aN xs) none .no), (1, .sl 1 (al aN ys) none .no), (12, .v (.int .i64 ys.length)), (13, .v (.int .i64 j))], [], h, []⟩) (fun j => j <= xs.length /\ ∀ i (h1 : i < xs.length) (h2 : i < ys.length), i < j -> ((· == ·) : Int -> Int -> Bool) xs[i] ys[i] = true) (fun j => xs.length - j) 0 ⟨by omega, fun i h1 h2 h3 => by omega⟩ ?_ ?_
  ·simp [Leq, hh, hargs]
  ·rintro j ⟨hj, hp⟩
   simp
   refine bh (decide (j < ys.length)) (by simp) (fun hlt => ?_) (fun hge => ?_)
   ·simp at hlt
    have hlt' : j < xs.length := by omega
    have hw : IntKind.i64.wrap ((j : Int) + 1) = (j : Int) + 1 := wrap64 (by omega) (by omega)
    simp [hlt, hlt', aN]
    refine bh (xs[j] != ys[j]) (by simp) (fun ht => ?_) (fun hf' => ?_)
    ·simp at ht
     have : kQ (· == ·) xs ys = false := nJ (i := j) hlt' hlt (by simpa using ht)
     simp [hh, this]
    ·simp at hf'
     simp
     refine ⟨j + 1, ⟨by omega, fun i h1 h2 h3 => ?_⟩, by omega, ?_⟩
     ·rcases Re i j with h4 | h4
      ·simpa using hp i h1 h2 h4
      ·have : i = j := by omega
       subst this; simpa using hf'
     ·simp [Leq, hh, hargs, hw]
   ·simp at hge
    have hx : kQ (· == ·) xs ys = true := (fD _ xs ys).2 ⟨hlen, fun i h1 h2 => hp i h1 h2 (by omega)⟩
    simp [hh, hx]
 ·have hne : (xs.length : Int) ≠ ys.length := by omega
  have hx : kQ (· == ·) xs ys = false := kR hlen
  simp [rR, hne, hh, hx]
def rT (k : Nat) (ts : List Nat) : XFun := ⟨26, (.seq (.ops [⟨(some 4), (.assign (.const (.bool false))), none⟩]) (.seq (.seq (.ops [⟨(some 6), (.move (.tmp 0)), none⟩, ⟨(some 7), (.lenL (.tmp 6)), none⟩, ⟨(some 8), (.move (.tmp 1)), none⟩, ⟨(some 9), (.lenL (.tmp 8)), none⟩, ⟨(some 10), (.bin .neq (.tmp 7) (.tmp 9)), none⟩]) (.cond (.tmp 10) (.seq (.ops [⟨(some 4), (.assign (.const (.bool false))), none⟩]) .ret) .skip)) (.seq (.seq (.ops [⟨(some 11), (.move (.tmp 0)), none⟩, ⟨(some 12), (.lenL (.tmp 11)), none⟩, ⟨(some 13), (.move (.const (.int .i64 0))), none⟩]) (.block 0 (.loop (.seq (.ops [⟨(some 14), (.bin .lss (.tmp 13) (.tmp 12)), none⟩]) (.seq (.cond (.tmp 14) .skip (.exit 0)) (.seq (.block 1 (.seq (.ops [⟨(some 15), (.move (.tmp 13)), none⟩, ⟨(some 5), (.assign (.tmp 15)), none⟩]) (.seq (.draws (.take ⟨(some 16), (.move (.tmp 0)), none⟩ (.take ⟨(some 17), (.move (.tmp 5)), none⟩ (.take ⟨(some 18), (.iaddr k (.tmp 16) (.tmp 17)), none⟩ (.take ⟨(some 19), (.loadN k (.tmp 18)), none⟩ (.take ⟨(some 20), (.move (.tmp 1)), none⟩ (.take ⟨(some 21), (.move (.tmp 5)), none⟩ (.take ⟨(some 22), (.iaddr k (.tmp 20) (.tmp 21)), none⟩ (.take ⟨(some 23), (.loadN k (.tmp 22)), none⟩ (.take ⟨(some 24), (.aeq true ts (.tmp 19) (.tmp 23)), none⟩ .done)))))))))) (.cond (.tmp 24) (.seq (.ops [⟨(some 4), (.assign (.const (.bool false))), none⟩]) .ret) .skip)))) (.ops [⟨(some 25), (.bin .add (.tmp 13) (.const (.int .i64 1))), none⟩, ⟨(some 13), (.move (.tmp 25)), none⟩]))))))) (.seq (.ops [⟨(some 4), (.assign (.const (.bool true))), none⟩]) .ret)))), [(.move (.tmp 4))]⟩
theorem nK {P : Program} (hm : P.follows .mixedOrders = true) {f : FuncId} {k : Nat} {ts : List Nat} (hf : ai P f = some (rT k ts)) {α : Type} (e : α -> α -> Bool) (c : α -> List AV) (hc : ∀ x, (c x).length = k) (hu : ∀ x, (c x).map AV.unown = c x) (he : ∀ x y, mU ts (c x) (c y) = some (e x y)) (xs ys : List α) (h : List (List AV)) (hl : xs.length <= 140737488355328) :
  ae P f [.sl k (al c xs) none .no, .sl k (al c ys) none .no] h (.v (.bool (kQ e xs ys))) h [] := by
 refine ac hf hm (by simp [rT]) fun hh hargs => ?_
 simp at hargs
 by_cases hlen : xs.length = ys.length
 ·simp [rT, hlen]
  refine ar (D := Nat) (fun j => ⟨[(0, .sl k (al c xs) none .no), (1, .sl k (al c ys) none .no), (12, .v (.int .i64 ys.length)), (13, .v (.int .i64 j))], [], h, []⟩) (fun j => j <= xs.length /\ ∀ i (h1 : i < xs.length) (h2 : i < ys.length), i < j -> (e : α -> α -> Bool) xs[i] ys[i] = true) (fun j => xs.length - j) 0 ⟨by omega, fun i h1 h2 h3 => by omega⟩ ?_ ?_
  ·simp [Leq, hh, hargs]
  ·rintro j ⟨hj, hp⟩
   simp
   refine bh (decide (j < ys.length)) (by simp) (fun hlt => ?_) (fun hge => ?_)
   ·simp at hlt
    have hlt' : j < xs.length := by omega
    have hw : IntKind.i64.wrap ((j : Int) + 1) = (j : Int) + 1 := wrap64 (by omega) (by omega)
    simp [hlt, hlt', hc, hu, he]
    refine bh (!e xs[j] ys[j]) (by simp) (fun ht => ?_) (fun hf' => ?_)
    ·simp at ht
     have : kQ e xs ys = false := nJ (i := j) hlt' hlt (by simpa using ht)
     simp [hh, this]
    ·simp at hf'
     simp
     refine ⟨j + 1, ⟨by omega, fun i h1 h2 h3 => ?_⟩, by omega, ?_⟩
     ·rcases Re i j with h4 | h4
      ·simpa using hp i h1 h2 h4
      ·have : i = j := by omega
       subst this; simpa using hf'
     ·simp [Leq, hh, hargs, hw]
   ·simp at hge
    have hx : kQ e xs ys = true := (fD _ xs ys).2 ⟨hlen, fun i h1 h2 => hp i h1 h2 (by omega)⟩
    simp [hh, hx]
 ·have hne : (xs.length : Int) ≠ ys.length := by omega
  have hx : kQ e xs ys = false := kR hlen
  simp [rT, hne, hh, hx]
def rS (z : List AV) (k : Nat) : XFun := ⟨32, (.seq (.ops [⟨(some 6), (.assign (.const (.bool false))), none⟩]) (.seq (.seq (.ops [⟨(some 10), (.move (.tmp 0)), none⟩, ⟨(some 11), (.lenL (.tmp 10)), none⟩, ⟨(some 12), (.move (.tmp 1)), none⟩, ⟨(some 13), (.lenL (.tmp 12)), none⟩, ⟨(some 14), (.bin .neq (.tmp 11) (.tmp 13)), none⟩]) (.cond (.tmp 14) (.seq (.ops [⟨(some 6), (.assign (.const (.bool false))), none⟩]) .ret) .skip)) (.seq (.seq (.ops [⟨(some 15), (.move (.tmp 0)), none⟩, ⟨(some 16), (.lenL (.tmp 15)), none⟩, ⟨(some 17), (.move (.const (.int .i64 0))), none⟩]) (.block 0 (.loop (.seq (.ops [⟨(some 18), (.bin .lss (.tmp 17) (.tmp 16)), none⟩]) (.seq (.cond (.tmp 18) .skip (.exit 0)) (.seq (.block 1 (.seq (.ops [⟨(some 19), (.move (.tmp 17)), none⟩, ⟨(some 20), (.iaddr k (.tmp 15) (.tmp 17)), none⟩, ⟨(some 21), (.loadN k (.tmp 20)), none⟩, ⟨(some 8), (.alloc z), none⟩, ⟨(some 7), (.assign (.tmp 19)), none⟩, ⟨none, (.store k (.tmp 8) (.tmp 21)), none⟩]) (.seq (.ops [⟨(some 22), (.move (.tmp 1)), none⟩, ⟨(some 23), (.move (.tmp 7)), none⟩, ⟨(some 24), (.iaddr k (.tmp 22) (.tmp 23)), none⟩, ⟨(some 25), (.loadN k (.tmp 24)), none⟩, ⟨(some 9), (.alloc z), none⟩, ⟨none, (.store k (.tmp 9) (.tmp 25)), none⟩]) (.seq (.ops [⟨(some 26), (.move (.tmp 2)), none⟩, ⟨(some 27), (.loadN k (.tmp 8)), none⟩, ⟨(some 28), (.loadN k (.tmp 9)), none⟩, ⟨(some 29), (.callv (.tmp 26) [(.tmp 27), (.tmp 28)]), none⟩, ⟨(some 30), (.un .not (.tmp 29)), none⟩]) (.cond (.tmp 30) (.seq (.ops [⟨(some 6), (.assign (.const (.bool false))), none⟩]) .ret) .skip))))) (.ops [⟨(some 31), (.bin .add (.tmp 17) (.const (.int .i64 1))), none⟩, ⟨(some 17), (.move (.tmp 31)), none⟩]))))))) (.seq (.ops [⟨(some 6), (.assign (.const (.bool true))), none⟩]) .ret)))), [(.move (.tmp 6))]⟩
theorem vr {P : Program} (hm : P.follows .mixedOrders = true) {f g : FuncId} {z : List AV} {k : Nat} (hf : ai P f = some (rS z k)) (hz : z.length = k) {α : Type} (e : α -> α -> Bool) (c : α -> List AV) (hc : ∀ x, (c x).length = k) (hu : ∀ x, (c x).map AV.unown = c x) (xs ys : List α) (h : List (List AV))
  (hg : ∀ x y h, ae P g [.agg (c x), .agg (c y)] h (.v (.bool (e x y))) h []) (hl : xs.length <= 140737488355328) :
  ae P f [.sl k (al c xs) none .no, .sl k (al c ys) none .no, .fn (.func g) [] []] h (.v (.bool (kQ e xs ys))) h [] := by
 refine ac hf hm (by simp [rS]) fun hh hargs => ?_
 simp at hargs
 have tk : ∀ x, (c x).take k = c x := fun x => Rc (by rw [hc]; exact Nat.le_refl _)
 by_cases hlen : xs.length = ys.length
 ·simp [rS, hlen]
  refine ar (D := Nat) (fun j => ⟨[(0, .sl k (al c xs) none .no), (1, .sl k (al c ys) none .no), (2, .fn (.func g) [] []), (15, .sl k (al c xs) none .no), (16, .v (.int .i64 ys.length)), (17, .v (.int .i64 j))], [], h, []⟩) (fun j => j <= xs.length /\ ∀ i (h1 : i < xs.length) (h2 : i < ys.length), i < j -> e xs[i] ys[i] = true) (fun j => xs.length - j) 0 ⟨by omega, fun i h1 h2 h3 => by omega⟩ ?_ ?_
  ·simp [Leq, hh, hargs]
  ·rintro j ⟨hj, hp⟩
   simp
   refine bh (decide (j < ys.length)) (by simp) (fun hlt => ?_) (fun hge => ?_)
   ·simp at hlt
    have hlt' : j < xs.length := by omega
    have hw : IntKind.i64.wrap ((j : Int) + 1) = (j : Int) + 1 := wrap64 (by omega) (by omega)
    simp [hlt, hlt', hc, hu, hz, A7, tk]
    refine aa (by simp) (hg _ _ _) ?_
    simp
    refine bh (!e xs[j] ys[j]) (by simp) (fun ht => ?_) (fun hf' => ?_)
    ·simp at ht
     simp [hh, nJ hlt' hlt ht]
    ·simp at hf'
     simp
     refine ⟨j + 1, ⟨by omega, fun i h1 h2 h3 => ?_⟩, by omega, ?_⟩
     ·rcases Re i j with h4 | h4
      ·exact hp i h1 h2 h4
      ·have : i = j := by omega
       subst this; exact hf'
     ·simp [Leq, hh, hargs, hw]
   ·simp at hge
    have hx : kQ e xs ys = true := (fD _ xs ys).2 ⟨hlen, fun i h1 h2 => hp i h1 h2 (by omega)⟩
    simp [hh, hx]
 ·have hne : (xs.length : Int) ≠ ys.length := by omega
  have hx : kQ e xs ys = false := kR hlen
  simp [rS, hne, hh, hx]
theorem lI {α : Type} {c : α -> List AV} {k : Nat} (hc : ∀ x, (c x).length = k) : ∀ xs : List α, (al c xs).flatten.length = xs.length * k
 | [] => by simp
 | x :: xs => by rw [de, Q7, List.length_append, hc, lI hc xs, Rb, Rh]; omega
theorem tD {α : Type} {c : α -> List AV} {k : Nat} (hc : ∀ x, (c x).length = k) : ∀ (xs : List α) (j : Nat) (hj : j < xs.length), ((al c xs).flatten.drop (j * k)).take k = c xs[j]
 | x :: xs, 0, _ => by rw [de, Q7, Nat.zero_mul, Rg, Rf (hc x)]; rfl
 | x :: xs, j + 1, hj => by
  have hj' : j < xs.length := by simpa using hj
  rw [de, Q7, show (j + 1) * k = (c x).length + j * k by rw [hc, Rh]; omega, List.drop_append, List.drop_of_length_le (by omega), List.nil_append, show (c x).length + j * k - (c x).length = j * k by omega, tD hc xs j hj']
  rfl
theorem nw {α : Type} {c : α -> List AV} {k : Nat} (hc : ∀ x, (c x).length = k) : ∀ xs : List α, bO k xs.length (al c xs).flatten = al c xs
 | [] => rfl
 | x :: xs => by
  rw [Rb, sq, de, Q7, Rf (hc x), List.drop_left' (hc x), nw hc xs]
theorem xn {α : Type} {c : α -> List AV} {k : Nat} (hc : ∀ x, (c x).length = k) (xs : List α) (i n : Nat) (hn : n = xs.length) : (AV.bsl i 0 k n).frz i (al c xs).flatten = .sl k (al c xs) (some false) .no := by
 subst hn
 have hl := lI hc xs
 show (if i = i /\ 0 + xs.length * k <= (al c xs).flatten.length then AV.sl k (bO k xs.length (((al c xs).flatten.drop 0).take (xs.length * k))) (some false) .no else AV.bsl i 0 k xs.length) = _
 rw [if_pos ⟨rfl, by rw [hl]; omega⟩, Rg, Rc (by rw [hl]; omega), nw hc]
@[simp] theorem PQ (i : Nat) (cs : List AV) (x : Value) : (AV.v x).frz i cs = .v x := qt
@[simp] theorem Mv (i : Nat) (cs : List AV) (j o : Nat) : (AV.box j o).frz i cs = .box j o := qt
@[simp] theorem Og (i : Nat) (cs : List AV) (k : Nat) (es : List (List AV)) (nul : Option Bool) (room : Room) : (AV.sl k es nul room).frz i cs = .sl k es nul room := qt
@[simp] theorem Ho (i : Nat) (cs : List AV) : tG i cs [] = [] := qt
@[simp] theorem E2 (i : Nat) (cs : List AV) (t : Nat) (a : AV) (r : List (Nat × AV)) : tG i cs ((t, a) :: r) = (t, a.frz i cs) :: tG i cs r := qt
@[simp] theorem P4 (i : Nat) (cs : List AV) (e o : List (Nat × AV)) (h : List (List AV)) (wr : List Nat) : (St.mk e o h wr).frz i cs = ⟨tG i cs e, o, h.set i [], wr⟩ := qt
end Go.Proofs.YtknohkmpficjgaaGreatDoor.Ax
