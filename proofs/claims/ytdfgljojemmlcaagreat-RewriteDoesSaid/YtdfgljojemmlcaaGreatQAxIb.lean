import Derived.Test.YtdfgljojemmlcaaGreatQAxXr
set_option linter.unusedSimpArgs false
set_option linter.unusedVariables false
open List renaming findIdx?_eq_some_iff_getElem -> Q0, findIdx?_eq_none_iff -> Q1, getElem_mem -> Q2, length_cons -> Q3, take_of_length_le -> Q4, flatten_cons -> Q6
open Nat renaming lt_or_ge -> Q5
namespace Go.Proofs.YtdfgljojemmlcaaGreat.Ax
open Go.RowKit Go By
set_option maxRecDepth 10000
theorem uq {α : Sort _} {a : α} : a = a := of_eq_true (eq_self a)
def se {α : Type} (p : α -> Bool) (l : List α) : Int := match l.findIdx? p with | some i => (i : Int) | none => -1
theorem xd {α : Type} {p : α -> Bool} {xs : List α} {j : Nat} (hj : j < xs.length) (h1 : ∀ x ∈ xs.take j, p x = false) (h2 : p xs[j] = true) : se p xs = j := by
 have : xs.findIdx? p = some j := by
  rw [Q0]
  refine ⟨hj, h2, fun k hk => ?_⟩
  have := h1 xs[k] (List.mem_take_iff_getElem.2 ⟨k, by omega, rfl⟩)
  simp [this]
 unfold se; rw [this]
theorem rq {α : Type} {p : α -> Bool} {xs : List α} (h1 : ∀ x ∈ xs, p x = false) : se p xs = -1 := by
 have : xs.findIdx? p = none := by
  rw [Q1]; exact h1
 unfold se; rw [this]
theorem um {α : Type} (p : α -> Bool) (xs : List α) : decide (0 <= se p xs) = xs.any p := by
 cases h : xs.findIdx? p with
 | none =>
  have h1 := Q1.1 h
  have h2 : xs.any p = false := by simpa using h1
  unfold se; rw [h, h2]; rfl
 | some i =>
  obtain ⟨hi, h1, _⟩ := Q0.1 h
  have h2 : xs.any p = true := List.any_eq_true.2 ⟨_, Q2 hi, h1⟩
  unfold se; rw [h, h2]; simp
theorem rM {α : Type} {p : α -> Bool} {xs : List α} {j : Nat} (hj : j < xs.length) (h1 : ∀ x ∈ xs.take j, p x = false) (h2 : p xs[j] = false) : ∀ x ∈ xs.take (j + 1), p x = false := by
 rw [jZ hj]
 intro x hx
 rcases List.mem_append.1 hx with h | h
 ·exact h1 x h
 ·simp at h; subst h; exact h2
def fR (f : FuncId) : XFun := ⟨9, (.seq (.ops [⟨(some 4), (.assign (.const (.bool false))), none⟩]) (.seq (.ops [⟨(some 5), (.move (.tmp 0)), none⟩, ⟨(some 6), (.move (.tmp 1)), none⟩, ⟨(some 7), (.call f [(.tmp 5), (.tmp 6)]), none⟩, ⟨(some 8), (.bin .geq (.tmp 7) (.const (.int .i64 0))), none⟩, ⟨(some 4), (.assign (.tmp 8)), none⟩]) .ret)), [(.move (.tmp 4))]⟩
def sK : XFun := ⟨19, (.seq (.ops [⟨(some 4), (.assign (.const (.int .i64 0))), none⟩]) (.seq (.seq (.ops [⟨(some 6), (.move (.tmp 0)), none⟩, ⟨(some 7), (.lenL (.tmp 6)), none⟩, ⟨(some 8), (.move (.const (.int .i64 0))), none⟩]) (.block 0 (.loop (.seq (.ops [⟨(some 9), (.bin .lss (.tmp 8) (.tmp 7)), none⟩]) (.seq (.cond (.tmp 9) .skip (.exit 0)) (.seq (.block 1 (.seq (.ops [⟨(some 10), (.move (.tmp 8)), none⟩, ⟨(some 5), (.assign (.tmp 10)), none⟩]) (.seq (.ops [⟨(some 11), (.move (.tmp 1)), none⟩, ⟨(some 12), (.move (.tmp 0)), none⟩, ⟨(some 13), (.move (.tmp 5)), none⟩, ⟨(some 14), (.iaddr 1 (.tmp 12) (.tmp 13)), none⟩, ⟨(some 15), (.load1 (.tmp 14)), none⟩, ⟨(some 16), (.callv (.tmp 11) [(.tmp 15)]), none⟩]) (.cond (.tmp 16) (.seq (.ops [⟨(some 17), (.move (.tmp 5)), none⟩, ⟨(some 4), (.assign (.tmp 17)), none⟩]) .ret) .skip)))) (.ops [⟨(some 18), (.bin .add (.tmp 8) (.const (.int .i64 1))), none⟩, ⟨(some 8), (.move (.tmp 18)), none⟩]))))))) (.seq (.ops [⟨(some 4), (.assign (.const (.int .i64 (-1)))), none⟩]) .ret))), [(.move (.tmp 4))]⟩
theorem vM {P : Program} (hm : P.follows .mixedOrders = true) {f g : FuncId} (hf : ak P f = some (sK)) {α : Type} (c : α -> AV) (p : α -> Bool) (xs : List α) (cap : List AV) (h : List (List AV)) (hcap : ∀ c ∈ cap, c.idOf = none) (hc : ∀ x, (c x).idOf = none) (hu : ∀ x, (c x).unown = c x)
  (hg : ∀ x, x ∈ xs -> Contract P g ((c x) :: cap) h (.v (.bool (p x))) h []) (hl : xs.length <= 140737488355328) :
  Contract P f [.sl 1 (ai (fun x => [c x]) xs) none .no, .fn (.func g) [] cap] h (.v (.int .i64 (se p xs))) h [] := by
 refine ab hf hm (by simp [sK]) fun hh hargs => ?_
 simp at hargs
 simp [sK]
 refine am (D := Nat) (fun j => ⟨[(0, .sl 1 (ai (fun x => [c x]) xs) none .no), (1, .fn (.func g) [] cap), (7, .v (.int .i64 xs.length)), (8, .v (.int .i64 j))], [], h, []⟩) (fun j => j <= xs.length /\ ∀ x ∈ xs.take j, p x = false) (fun j => xs.length - j) 0 (by simp) ?_ ?_
 ·simp [Leq, hh, hargs]
 ·rintro j ⟨hj, hp⟩
  simp
  refine aY (decide (j < xs.length)) (by simp) (fun hlt => ?_) (fun hge => ?_)
  ·simp at hlt
   have hq : ∀ y ∈ (c xs[j]) :: cap, y.idOf = none := by simpa [hc] using hcap
   have hw : IntKind.i64.wrap ((j : Int) + 1) = (j : Int) + 1 := wrap64 (by omega) (by omega)
   simp [hlt, hc, hu]
   refine ⟨hcap, aa hq (hg xs[j] (Q2 _)) ?_⟩
   simp [bZ hq]
   refine aY (p xs[j]) (by simp) (fun ht => ?_) (fun hf' => ?_)
   ·simp [hh, xd hlt hp ht]
   ·simp
    refine ⟨j + 1, ⟨by omega, rM hlt hp hf'⟩, by omega, ?_⟩
    simp [Leq, hh, hargs, hw]
  ·simp at hge
   have hj' : j = xs.length := by omega
   subst hj'
   simp at hp
   simp [hh, rq hp]
theorem eR {P : Program} (hm : P.follows .mixedOrders = true) {f f2 g : FuncId} (hf : ak P f = some (fR f2)) (hf2 : ak P f2 = some (sK)) {α : Type} (c : α -> AV) (p : α -> Bool) (xs : List α) (cap : List AV) (h : List (List AV)) (hcap : ∀ c ∈ cap, c.idOf = none) (hc : ∀ x, (c x).idOf = none) (hu : ∀ x, (c x).unown = c x)
  (hg : ∀ x, x ∈ xs -> Contract P g ((c x) :: cap) h (.v (.bool (p x))) h []) (hl : xs.length <= 140737488355328) :
  Contract P f [.sl 1 (ai (fun x => [c x]) xs) none .no, .fn (.func g) [] cap] h (.v (.bool (xs.any p))) h [] := by
 refine ab hf hm (by simp [fR]) fun hh hargs => ?_
 simp [fR]
 refine aa (by simp) (vM hm hf2 c p xs cap h hcap hc hu hg hl) ?_
 simp [hh, um]
def sA (k : Nat) : XFun := ⟨19, (.seq (.ops [⟨(some 4), (.assign (.const (.int .i64 0))), none⟩]) (.seq (.seq (.ops [⟨(some 6), (.move (.tmp 0)), none⟩, ⟨(some 7), (.lenL (.tmp 6)), none⟩, ⟨(some 8), (.move (.const (.int .i64 0))), none⟩]) (.block 0 (.loop (.seq (.ops [⟨(some 9), (.bin .lss (.tmp 8) (.tmp 7)), none⟩]) (.seq (.cond (.tmp 9) .skip (.exit 0)) (.seq (.block 1 (.seq (.ops [⟨(some 10), (.move (.tmp 8)), none⟩, ⟨(some 5), (.assign (.tmp 10)), none⟩]) (.seq (.ops [⟨(some 11), (.move (.tmp 1)), none⟩, ⟨(some 12), (.move (.tmp 0)), none⟩, ⟨(some 13), (.move (.tmp 5)), none⟩, ⟨(some 14), (.iaddr k (.tmp 12) (.tmp 13)), none⟩, ⟨(some 15), (.loadN k (.tmp 14)), none⟩, ⟨(some 16), (.callv (.tmp 11) [(.tmp 15)]), none⟩]) (.cond (.tmp 16) (.seq (.ops [⟨(some 17), (.move (.tmp 5)), none⟩, ⟨(some 4), (.assign (.tmp 17)), none⟩]) .ret) .skip)))) (.ops [⟨(some 18), (.bin .add (.tmp 8) (.const (.int .i64 1))), none⟩, ⟨(some 8), (.move (.tmp 18)), none⟩]))))))) (.seq (.ops [⟨(some 4), (.assign (.const (.int .i64 (-1)))), none⟩]) .ret))), [(.move (.tmp 4))]⟩
theorem uY {P : Program} (hm : P.follows .mixedOrders = true) {f g : FuncId} {k : Nat} (hf : ak P f = some (sA k)) {α : Type} (c : α -> List AV) (p : α -> Bool) (xs : List α) (cap : List AV) (h : List (List AV)) (hcap : ∀ c ∈ cap, c.idOf = none) (hc : ∀ x, (c x).length = k) (hu : ∀ x, (c x).map AV.unown = c x)
  (hg : ∀ x, x ∈ xs -> Contract P g ((.agg (c x)) :: cap) h (.v (.bool (p x))) h []) (hl : xs.length <= 140737488355328) :
  Contract P f [.sl k (ai c xs) none .no, .fn (.func g) [] cap] h (.v (.int .i64 (se p xs))) h [] := by
 refine ab hf hm (by simp [sA]) fun hh hargs => ?_
 simp at hargs
 simp [sA]
 refine am (D := Nat) (fun j => ⟨[(0, .sl k (ai c xs) none .no), (1, .fn (.func g) [] cap), (7, .v (.int .i64 xs.length)), (8, .v (.int .i64 j))], [], h, []⟩) (fun j => j <= xs.length /\ ∀ x ∈ xs.take j, p x = false) (fun j => xs.length - j) 0 (by simp) ?_ ?_
 ·simp [Leq, hh, hargs]
 ·rintro j ⟨hj, hp⟩
  simp
  refine aY (decide (j < xs.length)) (by simp) (fun hlt => ?_) (fun hge => ?_)
  ·simp at hlt
   have hq : ∀ y ∈ (.agg (c xs[j])) :: cap, y.idOf = none := by simpa using hcap
   have hw : IntKind.i64.wrap ((j : Int) + 1) = (j : Int) + 1 := wrap64 (by omega) (by omega)
   simp [hlt, hc, hu]
   refine ⟨hcap, aa hq (hg xs[j] (Q2 _)) ?_⟩
   simp [bZ hq]
   refine aY (p xs[j]) (by simp) (fun ht => ?_) (fun hf' => ?_)
   ·simp [hh, xd hlt hp ht]
   ·simp
    refine ⟨j + 1, ⟨by omega, rM hlt hp hf'⟩, by omega, ?_⟩
    simp [Leq, hh, hargs, hw]
  ·simp at hge
   have hj' : j = xs.length := by omega
   subst hj'
   simp at hp
   simp [hh, rq hp]
theorem dB {P : Program} (hm : P.follows .mixedOrders = true) {f f2 g : FuncId} {k : Nat} (hf : ak P f = some (fR f2)) (hf2 : ak P f2 = some (sA k)) {α : Type} (c : α -> List AV) (p : α -> Bool) (xs : List α) (cap : List AV) (h : List (List AV)) (hcap : ∀ c ∈ cap, c.idOf = none) (hc : ∀ x, (c x).length = k) (hu : ∀ x, (c x).map AV.unown = c x)
  (hg : ∀ x, x ∈ xs -> Contract P g ((.agg (c x)) :: cap) h (.v (.bool (p x))) h []) (hl : xs.length <= 140737488355328) :
  Contract P f [.sl k (ai c xs) none .no, .fn (.func g) [] cap] h (.v (.bool (xs.any p))) h [] := by
 refine ab hf hm (by simp [fR]) fun hh hargs => ?_
 simp [fR]
 refine aa (by simp) (uY hm hf2 c p xs cap h hcap hc hu hg hl) ?_
 simp [hh, um]
def ko {α : Type} (e : α -> α -> Bool) : List α -> List α -> Bool
 | [], [] => true
 | x :: r, y :: q => e x y && ko e r q
 | _, _ => false
theorem eA {α : Type} (e : α -> α -> Bool) : ∀ (xs ys : List α), ko e xs ys = true ↔ xs.length = ys.length /\ ∀ i (h1 : i < xs.length) (h2 : i < ys.length), e xs[i] ys[i] = true
 | [], [] => by simp [ko]
 | [], _ :: _ => by simp [ko]
 | _ :: _, [] => by simp [ko]
 | x :: r, y :: q => by
  simp only [ko, Bool.and_eq_true, eA e r q, Q3]
  constructor
  ·rintro ⟨h1, h2, h3⟩
   refine ⟨by omega, fun i hi hj => ?_⟩
   cases i with
   | zero => exact h1
   | succ i => exact h3 i (by simpa using hi) (by simpa using hj)
  ·rintro ⟨h1, h2⟩
   exact ⟨h2 0 (by simp) (by simp), by omega, fun i hi hj => h2 (i + 1) (by simpa using hi) (by simpa using hj)⟩
theorem lu {α : Type} {e : α -> α -> Bool} {xs ys : List α} {i : Nat} (h1 : i < xs.length) (h2 : i < ys.length) (h : e xs[i] ys[i] = false) : ko e xs ys = false := by
 cases hh : ko e xs ys with
 | false => rfl
 | true => have := ((eA e xs ys).1 hh).2 i h1 h2; rw [h] at this; cases this
theorem iz {α : Type} {e : α -> α -> Bool} {xs ys : List α} (h : xs.length ≠ ys.length) : ko e xs ys = false := by
 cases hh : ko e xs ys with
 | false => rfl
 | true => exact absurd ((eA e xs ys).1 hh).1 h
theorem eU {α : Type} [BEq α] [LawfulBEq α] : ∀ (xs ys : List α), ko (· == ·) xs ys = (xs == ys)
 | [], [] => rfl
 | [], _ :: _ => rfl
 | _ :: _, [] => rfl
 | x :: r, y :: q => by simp [ko, eU r q]
def so : XFun := ⟨26, (.seq (.ops [⟨(some 4), (.assign (.const (.bool false))), none⟩]) (.seq (.seq (.ops [⟨(some 6), (.move (.tmp 0)), none⟩, ⟨(some 7), (.lenL (.tmp 6)), none⟩, ⟨(some 8), (.move (.tmp 1)), none⟩, ⟨(some 9), (.lenL (.tmp 8)), none⟩, ⟨(some 10), (.bin .neq (.tmp 7) (.tmp 9)), none⟩]) (.cond (.tmp 10) (.seq (.ops [⟨(some 4), (.assign (.const (.bool false))), none⟩]) .ret) .skip)) (.seq (.seq (.ops [⟨(some 11), (.move (.tmp 0)), none⟩, ⟨(some 12), (.lenL (.tmp 11)), none⟩, ⟨(some 13), (.move (.const (.int .i64 0))), none⟩]) (.block 0 (.loop (.seq (.ops [⟨(some 14), (.bin .lss (.tmp 13) (.tmp 12)), none⟩]) (.seq (.cond (.tmp 14) .skip (.exit 0)) (.seq (.block 1 (.seq (.ops [⟨(some 15), (.move (.tmp 13)), none⟩, ⟨(some 5), (.assign (.tmp 15)), none⟩]) (.seq (.draws (.take ⟨(some 16), (.move (.tmp 0)), none⟩ (.take ⟨(some 17), (.move (.tmp 5)), none⟩ (.take ⟨(some 18), (.iaddr 1 (.tmp 16) (.tmp 17)), none⟩ (.take ⟨(some 19), (.load1 (.tmp 18)), none⟩ (.take ⟨(some 20), (.move (.tmp 1)), none⟩ (.take ⟨(some 21), (.move (.tmp 5)), none⟩ (.take ⟨(some 22), (.iaddr 1 (.tmp 20) (.tmp 21)), none⟩ (.take ⟨(some 23), (.load1 (.tmp 22)), none⟩ (.take ⟨(some 24), (.bin .neq (.tmp 19) (.tmp 23)), none⟩ .done)))))))))) (.cond (.tmp 24) (.seq (.ops [⟨(some 4), (.assign (.const (.bool false))), none⟩]) .ret) .skip)))) (.ops [⟨(some 25), (.bin .add (.tmp 13) (.const (.int .i64 1))), none⟩, ⟨(some 13), (.move (.tmp 25)), none⟩]))))))) (.seq (.ops [⟨(some 4), (.assign (.const (.bool true))), none⟩]) .ret)))), [(.move (.tmp 4))]⟩
theorem wj {P : Program} (hm : P.follows .mixedOrders = true) {f : FuncId} (hf : ak P f = some (so)) (xs ys : List Int) (h : List (List AV)) (hl : xs.length <= 140737488355328) :
  Contract P f [.sl 1 (ai ao xs) none .no, .sl 1 (ai ao ys) none .no] h (.v (.bool (ko (· == ·) xs ys))) h [] := by
 refine ab hf hm (by simp [so]) fun hh hargs => ?_
 simp at hargs
 by_cases hlen : xs.length = ys.length
 ·simp [so, hlen]
  refine am (D := Nat) (fun j => ⟨[(0, .sl 1 (ai ao xs) none .no), (1, .sl 1 (ai ao ys) none .no), (12, .v (.int .i64 ys.length)), (13, .v (.int .i64 j))], [], h, []⟩) (fun j => j <= xs.length /\ ∀ i (h1 : i < xs.length) (h2 : i < ys.length), i < j -> ((· == ·) : Int -> Int -> Bool) xs[i] ys[i] = true) (fun j => xs.length - j) 0 ⟨by omega, fun i h1 h2 h3 => by omega⟩ ?_ ?_
  ·simp [Leq, hh, hargs]
  ·rintro j ⟨hj, hp⟩
   simp
   refine aY (decide (j < ys.length)) (by simp) (fun hlt => ?_) (fun hge => ?_)
   ·simp at hlt
    have hlt' : j < xs.length := by omega
    have hw : IntKind.i64.wrap ((j : Int) + 1) = (j : Int) + 1 := wrap64 (by omega) (by omega)
    simp [hlt, hlt', ao]
    refine aY (xs[j] != ys[j]) (by simp) (fun ht => ?_) (fun hf' => ?_)
    ·simp at ht
     have : ko (· == ·) xs ys = false := lu (i := j) hlt' hlt (by simpa using ht)
     simp [hh, this]
    ·simp at hf'
     simp
     refine ⟨j + 1, ⟨by omega, fun i h1 h2 h3 => ?_⟩, by omega, ?_⟩
     ·rcases Q5 i j with h4 | h4
      ·simpa using hp i h1 h2 h4
      ·have : i = j := by omega
       subst this; simpa using hf'
     ·simp [Leq, hh, hargs, hw]
   ·simp at hge
    have hx : ko (· == ·) xs ys = true := (eA _ xs ys).2 ⟨hlen, fun i h1 h2 => hp i h1 h2 (by omega)⟩
    simp [hh, hx]
 ·have hne : (xs.length : Int) ≠ ys.length := by omega
  have hx : ko (· == ·) xs ys = false := iz hlen
  simp [so, hne, hh, hx]
def sS (k : Nat) (ts : List Nat) : XFun := ⟨26, (.seq (.ops [⟨(some 4), (.assign (.const (.bool false))), none⟩]) (.seq (.seq (.ops [⟨(some 6), (.move (.tmp 0)), none⟩, ⟨(some 7), (.lenL (.tmp 6)), none⟩, ⟨(some 8), (.move (.tmp 1)), none⟩, ⟨(some 9), (.lenL (.tmp 8)), none⟩, ⟨(some 10), (.bin .neq (.tmp 7) (.tmp 9)), none⟩]) (.cond (.tmp 10) (.seq (.ops [⟨(some 4), (.assign (.const (.bool false))), none⟩]) .ret) .skip)) (.seq (.seq (.ops [⟨(some 11), (.move (.tmp 0)), none⟩, ⟨(some 12), (.lenL (.tmp 11)), none⟩, ⟨(some 13), (.move (.const (.int .i64 0))), none⟩]) (.block 0 (.loop (.seq (.ops [⟨(some 14), (.bin .lss (.tmp 13) (.tmp 12)), none⟩]) (.seq (.cond (.tmp 14) .skip (.exit 0)) (.seq (.block 1 (.seq (.ops [⟨(some 15), (.move (.tmp 13)), none⟩, ⟨(some 5), (.assign (.tmp 15)), none⟩]) (.seq (.draws (.take ⟨(some 16), (.move (.tmp 0)), none⟩ (.take ⟨(some 17), (.move (.tmp 5)), none⟩ (.take ⟨(some 18), (.iaddr k (.tmp 16) (.tmp 17)), none⟩ (.take ⟨(some 19), (.loadN k (.tmp 18)), none⟩ (.take ⟨(some 20), (.move (.tmp 1)), none⟩ (.take ⟨(some 21), (.move (.tmp 5)), none⟩ (.take ⟨(some 22), (.iaddr k (.tmp 20) (.tmp 21)), none⟩ (.take ⟨(some 23), (.loadN k (.tmp 22)), none⟩ (.take ⟨(some 24), (.aeq true ts (.tmp 19) (.tmp 23)), none⟩ .done)))))))))) (.cond (.tmp 24) (.seq (.ops [⟨(some 4), (.assign (.const (.bool false))), none⟩]) .ret) .skip)))) (.ops [⟨(some 25), (.bin .add (.tmp 13) (.const (.int .i64 1))), none⟩, ⟨(some 13), (.move (.tmp 25)), none⟩]))))))) (.seq (.ops [⟨(some 4), (.assign (.const (.bool true))), none⟩]) .ret)))), [(.move (.tmp 4))]⟩
theorem pn {P : Program} (hm : P.follows .mixedOrders = true) {f : FuncId} {k : Nat} {ts : List Nat} (hf : ak P f = some (sS k ts)) {α : Type} (e : α -> α -> Bool) (c : α -> List AV) (hc : ∀ x, (c x).length = k) (hu : ∀ x, (c x).map AV.unown = c x) (he : ∀ x y, mi ts (c x) (c y) = some (e x y)) (xs ys : List α) (h : List (List AV)) (hl : xs.length <= 140737488355328) :
  Contract P f [.sl k (ai c xs) none .no, .sl k (ai c ys) none .no] h (.v (.bool (ko e xs ys))) h [] := by
 refine ab hf hm (by simp [sS]) fun hh hargs => ?_
 simp at hargs
 by_cases hlen : xs.length = ys.length
 ·simp [sS, hlen]
  refine am (D := Nat) (fun j => ⟨[(0, .sl k (ai c xs) none .no), (1, .sl k (ai c ys) none .no), (12, .v (.int .i64 ys.length)), (13, .v (.int .i64 j))], [], h, []⟩) (fun j => j <= xs.length /\ ∀ i (h1 : i < xs.length) (h2 : i < ys.length), i < j -> (e : α -> α -> Bool) xs[i] ys[i] = true) (fun j => xs.length - j) 0 ⟨by omega, fun i h1 h2 h3 => by omega⟩ ?_ ?_
  ·simp [Leq, hh, hargs]
  ·rintro j ⟨hj, hp⟩
   simp
   refine aY (decide (j < ys.length)) (by simp) (fun hlt => ?_) (fun hge => ?_)
   ·simp at hlt
    have hlt' : j < xs.length := by omega
    have hw : IntKind.i64.wrap ((j : Int) + 1) = (j : Int) + 1 := wrap64 (by omega) (by omega)
    simp [hlt, hlt', hc, hu, he]
    refine aY (!e xs[j] ys[j]) (by simp) (fun ht => ?_) (fun hf' => ?_)
    ·simp at ht
     have : ko e xs ys = false := lu (i := j) hlt' hlt (by simpa using ht)
     simp [hh, this]
    ·simp at hf'
     simp
     refine ⟨j + 1, ⟨by omega, fun i h1 h2 h3 => ?_⟩, by omega, ?_⟩
     ·rcases Q5 i j with h4 | h4
      ·simpa using hp i h1 h2 h4
      ·have : i = j := by omega
       subst this; simpa using hf'
     ·simp [Leq, hh, hargs, hw]
   ·simp at hge
    have hx : ko e xs ys = true := (eA _ xs ys).2 ⟨hlen, fun i h1 h2 => hp i h1 h2 (by omega)⟩
    simp [hh, hx]
 ·have hne : (xs.length : Int) ≠ ys.length := by omega
  have hx : ko e xs ys = false := iz hlen
  simp [sS, hne, hh, hx]
def jB (z : List AV) (k : Nat) : XFun := ⟨32, (.seq (.ops [⟨(some 6), (.assign (.const (.bool false))), none⟩]) (.seq (.seq (.ops [⟨(some 10), (.move (.tmp 0)), none⟩, ⟨(some 11), (.lenL (.tmp 10)), none⟩, ⟨(some 12), (.move (.tmp 1)), none⟩, ⟨(some 13), (.lenL (.tmp 12)), none⟩, ⟨(some 14), (.bin .neq (.tmp 11) (.tmp 13)), none⟩]) (.cond (.tmp 14) (.seq (.ops [⟨(some 6), (.assign (.const (.bool false))), none⟩]) .ret) .skip)) (.seq (.seq (.ops [⟨(some 15), (.move (.tmp 0)), none⟩, ⟨(some 16), (.lenL (.tmp 15)), none⟩, ⟨(some 17), (.move (.const (.int .i64 0))), none⟩]) (.block 0 (.loop (.seq (.ops [⟨(some 18), (.bin .lss (.tmp 17) (.tmp 16)), none⟩]) (.seq (.cond (.tmp 18) .skip (.exit 0)) (.seq (.block 1 (.seq (.ops [⟨(some 19), (.move (.tmp 17)), none⟩, ⟨(some 20), (.iaddr k (.tmp 15) (.tmp 17)), none⟩, ⟨(some 21), (.loadN k (.tmp 20)), none⟩, ⟨(some 8), (.alloc z), none⟩, ⟨(some 7), (.assign (.tmp 19)), none⟩, ⟨none, (.store k (.tmp 8) (.tmp 21)), none⟩]) (.seq (.ops [⟨(some 22), (.move (.tmp 1)), none⟩, ⟨(some 23), (.move (.tmp 7)), none⟩, ⟨(some 24), (.iaddr k (.tmp 22) (.tmp 23)), none⟩, ⟨(some 25), (.loadN k (.tmp 24)), none⟩, ⟨(some 9), (.alloc z), none⟩, ⟨none, (.store k (.tmp 9) (.tmp 25)), none⟩]) (.seq (.ops [⟨(some 26), (.move (.tmp 2)), none⟩, ⟨(some 27), (.loadN k (.tmp 8)), none⟩, ⟨(some 28), (.loadN k (.tmp 9)), none⟩, ⟨(some 29), (.callv (.tmp 26) [(.tmp 27), (.tmp 28)]), none⟩, ⟨(some 30), (.un .not (.tmp 29)), none⟩]) (.cond (.tmp 30) (.seq (.ops [⟨(some 6), (.assign (.const (.bool false))), none⟩]) .ret) .skip))))) (.ops [⟨(some 31), (.bin .add (.tmp 17) (.const (.int .i64 1))), none⟩, ⟨(some 17), (.move (.tmp 31)), none⟩]))))))) (.seq (.ops [⟨(some 6), (.assign (.const (.bool true))), none⟩]) .ret)))), [(.move (.tmp 6))]⟩
theorem vk {P : Program} (hm : P.follows .mixedOrders = true) {f g : FuncId} {z : List AV} {k : Nat} (hf : ak P f = some (jB z k)) (hz : z.length = k) {α : Type} (e : α -> α -> Bool) (c : α -> List AV) (hc : ∀ x, (c x).length = k) (hu : ∀ x, (c x).map AV.unown = c x) (xs ys : List α) (h : List (List AV))
  (hg : ∀ x y h, Contract P g [.agg (c x), .agg (c y)] h (.v (.bool (e x y))) h []) (hl : xs.length <= 140737488355328) :
  Contract P f [.sl k (ai c xs) none .no, .sl k (ai c ys) none .no, .fn (.func g) [] []] h (.v (.bool (ko e xs ys))) h [] := by
 refine ab hf hm (by simp [jB]) fun hh hargs => ?_
 simp at hargs
 have tk : ∀ x, (c x).take k = c x := fun x => Q4 (by rw [hc]; exact Nat.le_refl _)
 by_cases hlen : xs.length = ys.length
 ·simp [jB, hlen]
  refine am (D := Nat) (fun j => ⟨[(0, .sl k (ai c xs) none .no), (1, .sl k (ai c ys) none .no), (2, .fn (.func g) [] []), (15, .sl k (ai c xs) none .no), (16, .v (.int .i64 ys.length)), (17, .v (.int .i64 j))], [], h, []⟩) (fun j => j <= xs.length /\ ∀ i (h1 : i < xs.length) (h2 : i < ys.length), i < j -> e xs[i] ys[i] = true) (fun j => xs.length - j) 0 ⟨by omega, fun i h1 h2 h3 => by omega⟩ ?_ ?_
  ·simp [Leq, hh, hargs]
  ·rintro j ⟨hj, hp⟩
   simp
   refine aY (decide (j < ys.length)) (by simp) (fun hlt => ?_) (fun hge => ?_)
   ·simp at hlt
    have hlt' : j < xs.length := by omega
    have hw : IntKind.i64.wrap ((j : Int) + 1) = (j : Int) + 1 := wrap64 (by omega) (by omega)
    simp [hlt, hlt', hc, hu, hz, uC, tk]
    refine aa (by simp) (hg _ _ _) ?_
    simp
    refine aY (!e xs[j] ys[j]) (by simp) (fun ht => ?_) (fun hf' => ?_)
    ·simp at ht
     simp [hh, lu hlt' hlt ht]
    ·simp at hf'
     simp
     refine ⟨j + 1, ⟨by omega, fun i h1 h2 h3 => ?_⟩, by omega, ?_⟩
     ·rcases Q5 i j with h4 | h4
      ·exact hp i h1 h2 h4
      ·have : i = j := by omega
       subst this; exact hf'
     ·simp [Leq, hh, hargs, hw]
   ·simp at hge
    have hx : ko e xs ys = true := (eA _ xs ys).2 ⟨hlen, fun i h1 h2 => hp i h1 h2 (by omega)⟩
    simp [hh, hx]
 ·have hne : (xs.length : Int) ≠ ys.length := by omega
  have hx : ko e xs ys = false := iz hlen
  simp [jB, hne, hh, hx]
theorem mz {α : Type} {c : α -> List AV} {k : Nat} (hc : ∀ x, (c x).length = k) : ∀ xs : List α, (ai c xs).flatten.length = xs.length * k
 | [] => by simp
 | x :: xs => by rw [l9, Q6, List.length_append, hc, mz hc xs, Q3, Nat.succ_mul]; omega
theorem lk {α : Type} {c : α -> List AV} {k : Nat} (hc : ∀ x, (c x).length = k) : ∀ xs : List α, cB k xs.length (ai c xs).flatten = ai c xs
 | [] => rfl
 | x :: xs => by
  rw [Q3, sw, l9, Q6, List.take_left' (hc x), List.drop_left' (hc x), lk hc xs]
theorem jb {α : Type} {c : α -> List AV} {k : Nat} (hc : ∀ x, (c x).length = k) (xs : List α) (i n : Nat) (hn : n = xs.length) : (AV.bsl i 0 k n).frz i (ai c xs).flatten = .sl k (ai c xs) (some false) .no := by
 subst hn
 have hl := mz hc xs
 show (if i = i /\ 0 + xs.length * k <= (ai c xs).flatten.length then AV.sl k (cB k xs.length (((ai c xs).flatten.drop 0).take (xs.length * k))) (some false) .no else AV.bsl i 0 k xs.length) = _
 rw [if_pos ⟨rfl, by rw [hl]; omega⟩, List.drop_zero, Q4 (by rw [hl]; omega), lk hc]
@[simp] theorem PO (i : Nat) (cs : List AV) (x : Value) : (AV.v x).frz i cs = .v x := uq
@[simp] theorem K6 (i : Nat) (cs : List AV) (j o : Nat) : (AV.box j o).frz i cs = .box j o := uq
@[simp] theorem L7 (i : Nat) (cs : List AV) (k : Nat) (es : List (List AV)) (nul : Option Bool) (room : Room) : (AV.sl k es nul room).frz i cs = .sl k es nul room := uq
@[simp] theorem K9 (i : Nat) (cs l : List AV) : (AV.agg l).frz i cs = .agg l := uq
@[simp] theorem LX (i : Nat) (cs l : List AV) : (AV.tup l).frz i cs = .tup l := uq
@[simp] theorem ET (i : Nat) (cs : List AV) : te i cs [] = [] := uq
@[simp] theorem D7 (i : Nat) (cs : List AV) (t : Nat) (a : AV) (r : List (Nat × AV)) : te i cs ((t, a) :: r) = (t, a.frz i cs) :: te i cs r := uq
@[simp] theorem PH (i : Nat) (cs : List AV) (e o : List (Nat × AV)) (h : List (List AV)) (wr : List Nat) : (St.mk e o h wr).frz i cs = ⟨te i cs e, o, h.set i [], wr⟩ := uq
end Go.Proofs.YtdfgljojemmlcaaGreat.Ax
