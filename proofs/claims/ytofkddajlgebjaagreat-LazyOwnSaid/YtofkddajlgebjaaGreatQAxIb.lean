/- Finding by a function in a variable's elements, over values without memory. No program is named here. -/
import Derived.Test.YtofkddajlgebjaaGreatQAxXr
/- The functions of package slices that find by a function, that compare lists, over values without memory. No program is named here. Written by gen/slices.py. -/
namespace Go.Proofs.YtofkddajlgebjaaGreat.Ax
open Go.RowKit Go By
set_option linter.unusedSimpArgs false
set_option maxRecDepth 10000

/-- Where the first one is that p tells of; -1, if there is none. -/
def idxI {α : Type} (p : α → Bool) (l : List α) : Int := match l.findIdx? p with | some i => (i : Int) | none => -1
theorem idxI_of {α : Type} {p : α → Bool} {xs : List α} {j : Nat} (hj : j < xs.length) (h1 : ∀ x ∈ xs.take j, p x = false) (h2 : p xs[j] = true) : idxI p xs = j := by
  have : xs.findIdx? p = some j := by
    rw [List.findIdx?_eq_some_iff_getElem]
    refine ⟨hj, h2, fun k hk => ?_⟩
    have := h1 xs[k] (List.mem_take_iff_getElem.2 ⟨k, by omega, rfl⟩)
    simp [this]
  unfold idxI; rw [this]
theorem idxI_none {α : Type} {p : α → Bool} {xs : List α} (h1 : ∀ x ∈ xs, p x = false) : idxI p xs = -1 := by
  have : xs.findIdx? p = none := by
    rw [List.findIdx?_eq_none_iff]; exact h1
  unfold idxI; rw [this]
theorem idxI_any {α : Type} (p : α → Bool) (xs : List α) : decide (0 ≤ idxI p xs) = xs.any p := by
  cases h : xs.findIdx? p with
  | none =>
    have h1 := List.findIdx?_eq_none_iff.1 h
    have h2 : xs.any p = false := by simpa using h1
    unfold idxI; rw [h, h2]; rfl
  | some i =>
    obtain ⟨hi, h1, _⟩ := List.findIdx?_eq_some_iff_getElem.1 h
    have h2 : xs.any p = true := List.any_eq_true.2 ⟨_, List.getElem_mem hi, h1⟩
    unfold idxI; rw [h, h2]; simp
theorem take_none {α : Type} {p : α → Bool} {xs : List α} {j : Nat} (hj : j < xs.length) (h1 : ∀ x ∈ xs.take j, p x = false) (h2 : p xs[j] = false) : ∀ x ∈ xs.take (j + 1), p x = false := by
  rw [take_next hj]
  intro x hx
  rcases List.mem_append.1 hx with h | h
  · exact h1 x h
  · simp at h; subst h; exact h2

def containsX (f : FuncId) : XFun := ⟨9, (.seq (.ops [⟨(some 4), (.assign (.const (.bool false))), none⟩]) (.seq (.ops [⟨(some 5), (.move (.tmp 0)), none⟩, ⟨(some 6), (.move (.tmp 1)), none⟩, ⟨(some 7), (.call f [(.tmp 5), (.tmp 6)]), none⟩, ⟨(some 8), (.bin .geq (.tmp 7) (.const (.int .i64 0))), none⟩, ⟨(some 4), (.assign (.tmp 8)), none⟩]) .ret)), [(.move (.tmp 4))]⟩

def index1 : XFun := ⟨19, (.seq (.ops [⟨(some 4), (.assign (.const (.int .i64 0))), none⟩]) (.seq (.seq (.ops [⟨(some 6), (.move (.tmp 0)), none⟩, ⟨(some 7), (.lenL (.tmp 6)), none⟩, ⟨(some 8), (.move (.const (.int .i64 0))), none⟩]) (.block 0 (.loop (.seq (.ops [⟨(some 9), (.bin .lss (.tmp 8) (.tmp 7)), none⟩]) (.seq (.cond (.tmp 9) .skip (.exit 0)) (.seq (.block 1 (.seq (.ops [⟨(some 10), (.move (.tmp 8)), none⟩, ⟨(some 5), (.assign (.tmp 10)), none⟩]) (.seq (.ops [⟨(some 11), (.move (.tmp 1)), none⟩, ⟨(some 12), (.move (.tmp 0)), none⟩, ⟨(some 13), (.move (.tmp 5)), none⟩, ⟨(some 14), (.iaddr 1 (.tmp 12) (.tmp 13)), none⟩, ⟨(some 15), (.load1 (.tmp 14)), none⟩, ⟨(some 16), (.callv (.tmp 11) [(.tmp 15)]), none⟩]) (.cond (.tmp 16) (.seq (.ops [⟨(some 17), (.move (.tmp 5)), none⟩, ⟨(some 4), (.assign (.tmp 17)), none⟩]) .ret) .skip)))) (.ops [⟨(some 18), (.bin .add (.tmp 8) (.const (.int .i64 1))), none⟩, ⟨(some 8), (.move (.tmp 18)), none⟩]))))))) (.seq (.ops [⟨(some 4), (.assign (.const (.int .i64 (-1)))), none⟩]) .ret))), [(.move (.tmp 4))]⟩
theorem index1_any {P : Program} (hm : P.follows .mixedOrders = true) {f g : FuncId} (hf : cfun P f = some (index1)) {α : Type} (c : α → AV) (p : α → Bool) (xs : List α) (cap : List AV) (h : List (List AV)) (hcap : ∀ c ∈ cap, c.idOf = none) (hc : ∀ x, (c x).idOf = none) (hu : ∀ x, (c x).unown = c x)
    (hg : ∀ x, x ∈ xs → Contract P g ((c x) :: cap) h (.v (.bool (p x))) h []) (hl : xs.length ≤ 140737488355328) :
    Contract P f [.sl 1 (enc (fun x => [c x]) xs) none .no, .fn (.func g) [] cap] h (.v (.int .i64 (idxI p xs))) h [] := by
  refine contract_of hf hm (by simp [index1]) fun hh hargs => ?_
  simp at hargs
  simp [index1]
  refine xloop_ok (D := Nat) (fun j => ⟨[(0, .sl 1 (enc (fun x => [c x]) xs) none .no), (1, .fn (.func g) [] cap), (7, .v (.int .i64 xs.length)), (8, .v (.int .i64 j))], [], h, []⟩) (fun j => j ≤ xs.length ∧ ∀ x ∈ xs.take j, p x = false) (fun j => xs.length - j) 0 (by simp) ?_ ?_
  · simp [Leq, hh, hargs]
  · rintro j ⟨hj, hp⟩
    simp
    refine xwp_cond_of (decide (j < xs.length)) (by simp) (fun hlt => ?_) (fun hge => ?_)
    · simp at hlt
      have hq : ∀ y ∈ (c xs[j]) :: cap, y.idOf = none := by simpa [hc] using hcap
      have hw : IntKind.i64.wrap ((j : Int) + 1) = (j : Int) + 1 := wrap64 (by omega) (by omega)
      simp [hlt, hc, hu]
      refine ⟨hcap, xcall_self hq (hg xs[j] (List.getElem_mem _)) ?_⟩
      simp [idsOf_none hq]
      refine xwp_cond_of (p xs[j]) (by simp) (fun ht => ?_) (fun hf' => ?_)
      · simp [hh, idxI_of hlt hp ht]
      · simp
        refine ⟨j + 1, ⟨by omega, take_none hlt hp hf'⟩, by omega, ?_⟩
        simp [Leq, hh, hargs, hw]
    · simp at hge
      have hj' : j = xs.length := by omega
      subst hj'
      simp at hp
      simp [hh, idxI_none hp]

theorem contains1_any {P : Program} (hm : P.follows .mixedOrders = true) {f f2 g : FuncId} (hf : cfun P f = some (containsX f2)) (hf2 : cfun P f2 = some (index1)) {α : Type} (c : α → AV) (p : α → Bool) (xs : List α) (cap : List AV) (h : List (List AV)) (hcap : ∀ c ∈ cap, c.idOf = none) (hc : ∀ x, (c x).idOf = none) (hu : ∀ x, (c x).unown = c x)
    (hg : ∀ x, x ∈ xs → Contract P g ((c x) :: cap) h (.v (.bool (p x))) h []) (hl : xs.length ≤ 140737488355328) :
    Contract P f [.sl 1 (enc (fun x => [c x]) xs) none .no, .fn (.func g) [] cap] h (.v (.bool (xs.any p))) h [] := by
  refine contract_of hf hm (by simp [containsX]) fun hh hargs => ?_
  simp [containsX]
  refine xcall_self (by simp) (index1_any hm hf2 c p xs cap h hcap hc hu hg hl) ?_
  simp [hh, idxI_any]

def indexN (k : Nat) : XFun := ⟨19, (.seq (.ops [⟨(some 4), (.assign (.const (.int .i64 0))), none⟩]) (.seq (.seq (.ops [⟨(some 6), (.move (.tmp 0)), none⟩, ⟨(some 7), (.lenL (.tmp 6)), none⟩, ⟨(some 8), (.move (.const (.int .i64 0))), none⟩]) (.block 0 (.loop (.seq (.ops [⟨(some 9), (.bin .lss (.tmp 8) (.tmp 7)), none⟩]) (.seq (.cond (.tmp 9) .skip (.exit 0)) (.seq (.block 1 (.seq (.ops [⟨(some 10), (.move (.tmp 8)), none⟩, ⟨(some 5), (.assign (.tmp 10)), none⟩]) (.seq (.ops [⟨(some 11), (.move (.tmp 1)), none⟩, ⟨(some 12), (.move (.tmp 0)), none⟩, ⟨(some 13), (.move (.tmp 5)), none⟩, ⟨(some 14), (.iaddr k (.tmp 12) (.tmp 13)), none⟩, ⟨(some 15), (.loadN k (.tmp 14)), none⟩, ⟨(some 16), (.callv (.tmp 11) [(.tmp 15)]), none⟩]) (.cond (.tmp 16) (.seq (.ops [⟨(some 17), (.move (.tmp 5)), none⟩, ⟨(some 4), (.assign (.tmp 17)), none⟩]) .ret) .skip)))) (.ops [⟨(some 18), (.bin .add (.tmp 8) (.const (.int .i64 1))), none⟩, ⟨(some 8), (.move (.tmp 18)), none⟩]))))))) (.seq (.ops [⟨(some 4), (.assign (.const (.int .i64 (-1)))), none⟩]) .ret))), [(.move (.tmp 4))]⟩
theorem indexN_any {P : Program} (hm : P.follows .mixedOrders = true) {f g : FuncId} {k : Nat} (hf : cfun P f = some (indexN k)) {α : Type} (c : α → List AV) (p : α → Bool) (xs : List α) (cap : List AV) (h : List (List AV)) (hcap : ∀ c ∈ cap, c.idOf = none) (hc : ∀ x, (c x).length = k) (hu : ∀ x, (c x).map AV.unown = c x)
    (hg : ∀ x, x ∈ xs → Contract P g ((.agg (c x)) :: cap) h (.v (.bool (p x))) h []) (hl : xs.length ≤ 140737488355328) :
    Contract P f [.sl k (enc c xs) none .no, .fn (.func g) [] cap] h (.v (.int .i64 (idxI p xs))) h [] := by
  refine contract_of hf hm (by simp [indexN]) fun hh hargs => ?_
  simp at hargs
  simp [indexN]
  refine xloop_ok (D := Nat) (fun j => ⟨[(0, .sl k (enc c xs) none .no), (1, .fn (.func g) [] cap), (7, .v (.int .i64 xs.length)), (8, .v (.int .i64 j))], [], h, []⟩) (fun j => j ≤ xs.length ∧ ∀ x ∈ xs.take j, p x = false) (fun j => xs.length - j) 0 (by simp) ?_ ?_
  · simp [Leq, hh, hargs]
  · rintro j ⟨hj, hp⟩
    simp
    refine xwp_cond_of (decide (j < xs.length)) (by simp) (fun hlt => ?_) (fun hge => ?_)
    · simp at hlt
      have hq : ∀ y ∈ (.agg (c xs[j])) :: cap, y.idOf = none := by simpa using hcap
      have hw : IntKind.i64.wrap ((j : Int) + 1) = (j : Int) + 1 := wrap64 (by omega) (by omega)
      simp [hlt, hc, hu]
      refine ⟨hcap, xcall_self hq (hg xs[j] (List.getElem_mem _)) ?_⟩
      simp [idsOf_none hq]
      refine xwp_cond_of (p xs[j]) (by simp) (fun ht => ?_) (fun hf' => ?_)
      · simp [hh, idxI_of hlt hp ht]
      · simp
        refine ⟨j + 1, ⟨by omega, take_none hlt hp hf'⟩, by omega, ?_⟩
        simp [Leq, hh, hargs, hw]
    · simp at hge
      have hj' : j = xs.length := by omega
      subst hj'
      simp at hp
      simp [hh, idxI_none hp]

theorem containsN_any {P : Program} (hm : P.follows .mixedOrders = true) {f f2 g : FuncId} {k : Nat} (hf : cfun P f = some (containsX f2)) (hf2 : cfun P f2 = some (indexN k)) {α : Type} (c : α → List AV) (p : α → Bool) (xs : List α) (cap : List AV) (h : List (List AV)) (hcap : ∀ c ∈ cap, c.idOf = none) (hc : ∀ x, (c x).length = k) (hu : ∀ x, (c x).map AV.unown = c x)
    (hg : ∀ x, x ∈ xs → Contract P g ((.agg (c x)) :: cap) h (.v (.bool (p x))) h []) (hl : xs.length ≤ 140737488355328) :
    Contract P f [.sl k (enc c xs) none .no, .fn (.func g) [] cap] h (.v (.bool (xs.any p))) h [] := by
  refine contract_of hf hm (by simp [containsX]) fun hh hargs => ?_
  simp [containsX]
  refine xcall_self (by simp) (indexN_any hm hf2 c p xs cap h hcap hc hu hg hl) ?_
  simp [hh, idxI_any]

/-- Two lists whose elements are the same by e, one by one. -/
def eqL {α : Type} (e : α → α → Bool) : List α → List α → Bool
  | [], [] => true
  | x :: r, y :: q => e x y && eqL e r q
  | _, _ => false
theorem eqL_iff {α : Type} (e : α → α → Bool) : ∀ (xs ys : List α), eqL e xs ys = true ↔ xs.length = ys.length ∧ ∀ i (h1 : i < xs.length) (h2 : i < ys.length), e xs[i] ys[i] = true
  | [], [] => by simp [eqL]
  | [], _ :: _ => by simp [eqL]
  | _ :: _, [] => by simp [eqL]
  | x :: r, y :: q => by
    simp only [eqL, Bool.and_eq_true, eqL_iff e r q, List.length_cons]
    constructor
    · rintro ⟨h1, h2, h3⟩
      refine ⟨by omega, fun i hi hj => ?_⟩
      cases i with
      | zero => exact h1
      | succ i => exact h3 i (by simpa using hi) (by simpa using hj)
    · rintro ⟨h1, h2⟩
      exact ⟨h2 0 (by simp) (by simp), by omega, fun i hi hj => h2 (i + 1) (by simpa using hi) (by simpa using hj)⟩
theorem eqL_no {α : Type} {e : α → α → Bool} {xs ys : List α} {i : Nat} (h1 : i < xs.length) (h2 : i < ys.length) (h : e xs[i] ys[i] = false) : eqL e xs ys = false := by
  cases hh : eqL e xs ys with
  | false => rfl
  | true => have := ((eqL_iff e xs ys).1 hh).2 i h1 h2; rw [h] at this; cases this
theorem eqL_len {α : Type} {e : α → α → Bool} {xs ys : List α} (h : xs.length ≠ ys.length) : eqL e xs ys = false := by
  cases hh : eqL e xs ys with
  | false => rfl
  | true => exact absurd ((eqL_iff e xs ys).1 hh).1 h
theorem eqL_beq {α : Type} [BEq α] [LawfulBEq α] : ∀ (xs ys : List α), eqL (· == ·) xs ys = (xs == ys)
  | [], [] => rfl
  | [], _ :: _ => rfl
  | _ :: _, [] => rfl
  | x :: r, y :: q => by simp [eqL, eqL_beq r q]

def equal1 : XFun := ⟨26, (.seq (.ops [⟨(some 4), (.assign (.const (.bool false))), none⟩]) (.seq (.seq (.ops [⟨(some 6), (.move (.tmp 0)), none⟩, ⟨(some 7), (.lenL (.tmp 6)), none⟩, ⟨(some 8), (.move (.tmp 1)), none⟩, ⟨(some 9), (.lenL (.tmp 8)), none⟩, ⟨(some 10), (.bin .neq (.tmp 7) (.tmp 9)), none⟩]) (.cond (.tmp 10) (.seq (.ops [⟨(some 4), (.assign (.const (.bool false))), none⟩]) .ret) .skip)) (.seq (.seq (.ops [⟨(some 11), (.move (.tmp 0)), none⟩, ⟨(some 12), (.lenL (.tmp 11)), none⟩, ⟨(some 13), (.move (.const (.int .i64 0))), none⟩]) (.block 0 (.loop (.seq (.ops [⟨(some 14), (.bin .lss (.tmp 13) (.tmp 12)), none⟩]) (.seq (.cond (.tmp 14) .skip (.exit 0)) (.seq (.block 1 (.seq (.ops [⟨(some 15), (.move (.tmp 13)), none⟩, ⟨(some 5), (.assign (.tmp 15)), none⟩]) (.seq (.draws (.take ⟨(some 16), (.move (.tmp 0)), none⟩ (.take ⟨(some 17), (.move (.tmp 5)), none⟩ (.take ⟨(some 18), (.iaddr 1 (.tmp 16) (.tmp 17)), none⟩ (.take ⟨(some 19), (.load1 (.tmp 18)), none⟩ (.take ⟨(some 20), (.move (.tmp 1)), none⟩ (.take ⟨(some 21), (.move (.tmp 5)), none⟩ (.take ⟨(some 22), (.iaddr 1 (.tmp 20) (.tmp 21)), none⟩ (.take ⟨(some 23), (.load1 (.tmp 22)), none⟩ (.take ⟨(some 24), (.bin .neq (.tmp 19) (.tmp 23)), none⟩ .done)))))))))) (.cond (.tmp 24) (.seq (.ops [⟨(some 4), (.assign (.const (.bool false))), none⟩]) .ret) .skip)))) (.ops [⟨(some 25), (.bin .add (.tmp 13) (.const (.int .i64 1))), none⟩, ⟨(some 13), (.move (.tmp 25)), none⟩]))))))) (.seq (.ops [⟨(some 4), (.assign (.const (.bool true))), none⟩]) .ret)))), [(.move (.tmp 4))]⟩

theorem equal1_any {P : Program} (hm : P.follows .mixedOrders = true) {f : FuncId} (hf : cfun P f = some (equal1)) (xs ys : List Int) (h : List (List AV)) (hl : xs.length ≤ 140737488355328) :
    Contract P f [.sl 1 (enc intC xs) none .no, .sl 1 (enc intC ys) none .no] h (.v (.bool (eqL (· == ·) xs ys))) h [] := by
  refine contract_of hf hm (by simp [equal1]) fun hh hargs => ?_
  simp at hargs
  by_cases hlen : xs.length = ys.length
  · simp [equal1, hlen]
    refine xloop_ok (D := Nat) (fun j => ⟨[(0, .sl 1 (enc intC xs) none .no), (1, .sl 1 (enc intC ys) none .no), (12, .v (.int .i64 ys.length)), (13, .v (.int .i64 j))], [], h, []⟩) (fun j => j ≤ xs.length ∧ ∀ i (h1 : i < xs.length) (h2 : i < ys.length), i < j → ((· == ·) : Int → Int → Bool) xs[i] ys[i] = true) (fun j => xs.length - j) 0 ⟨by omega, fun i h1 h2 h3 => by omega⟩ ?_ ?_
    · simp [Leq, hh, hargs]
    · rintro j ⟨hj, hp⟩
      simp
      refine xwp_cond_of (decide (j < ys.length)) (by simp) (fun hlt => ?_) (fun hge => ?_)
      · simp at hlt
        have hlt' : j < xs.length := by omega
        have hw : IntKind.i64.wrap ((j : Int) + 1) = (j : Int) + 1 := wrap64 (by omega) (by omega)
        simp [hlt, hlt', intC]
        refine xwp_cond_of (xs[j] != ys[j]) (by simp) (fun ht => ?_) (fun hf' => ?_)
        · simp at ht
          have : eqL (· == ·) xs ys = false := eqL_no (i := j) hlt' hlt (by simpa using ht)
          simp [hh, this]
        · simp at hf'
          simp
          refine ⟨j + 1, ⟨by omega, fun i h1 h2 h3 => ?_⟩, by omega, ?_⟩
          · rcases Nat.lt_or_ge i j with h4 | h4
            · simpa using hp i h1 h2 h4
            · have : i = j := by omega
              subst this; simpa using hf'
          · simp [Leq, hh, hargs, hw]
      · simp at hge
        have hx : eqL (· == ·) xs ys = true := (eqL_iff _ xs ys).2 ⟨hlen, fun i h1 h2 => hp i h1 h2 (by omega)⟩
        simp [hh, hx]
  · have hne : (xs.length : Int) ≠ ys.length := by omega
    have hx : eqL (· == ·) xs ys = false := eqL_len hlen
    simp [equal1, hne, hh, hx]

def equalN (k : Nat) (ts : List Nat) : XFun := ⟨26, (.seq (.ops [⟨(some 4), (.assign (.const (.bool false))), none⟩]) (.seq (.seq (.ops [⟨(some 6), (.move (.tmp 0)), none⟩, ⟨(some 7), (.lenL (.tmp 6)), none⟩, ⟨(some 8), (.move (.tmp 1)), none⟩, ⟨(some 9), (.lenL (.tmp 8)), none⟩, ⟨(some 10), (.bin .neq (.tmp 7) (.tmp 9)), none⟩]) (.cond (.tmp 10) (.seq (.ops [⟨(some 4), (.assign (.const (.bool false))), none⟩]) .ret) .skip)) (.seq (.seq (.ops [⟨(some 11), (.move (.tmp 0)), none⟩, ⟨(some 12), (.lenL (.tmp 11)), none⟩, ⟨(some 13), (.move (.const (.int .i64 0))), none⟩]) (.block 0 (.loop (.seq (.ops [⟨(some 14), (.bin .lss (.tmp 13) (.tmp 12)), none⟩]) (.seq (.cond (.tmp 14) .skip (.exit 0)) (.seq (.block 1 (.seq (.ops [⟨(some 15), (.move (.tmp 13)), none⟩, ⟨(some 5), (.assign (.tmp 15)), none⟩]) (.seq (.draws (.take ⟨(some 16), (.move (.tmp 0)), none⟩ (.take ⟨(some 17), (.move (.tmp 5)), none⟩ (.take ⟨(some 18), (.iaddr k (.tmp 16) (.tmp 17)), none⟩ (.take ⟨(some 19), (.loadN k (.tmp 18)), none⟩ (.take ⟨(some 20), (.move (.tmp 1)), none⟩ (.take ⟨(some 21), (.move (.tmp 5)), none⟩ (.take ⟨(some 22), (.iaddr k (.tmp 20) (.tmp 21)), none⟩ (.take ⟨(some 23), (.loadN k (.tmp 22)), none⟩ (.take ⟨(some 24), (.aeq true ts (.tmp 19) (.tmp 23)), none⟩ .done)))))))))) (.cond (.tmp 24) (.seq (.ops [⟨(some 4), (.assign (.const (.bool false))), none⟩]) .ret) .skip)))) (.ops [⟨(some 25), (.bin .add (.tmp 13) (.const (.int .i64 1))), none⟩, ⟨(some 13), (.move (.tmp 25)), none⟩]))))))) (.seq (.ops [⟨(some 4), (.assign (.const (.bool true))), none⟩]) .ret)))), [(.move (.tmp 4))]⟩

theorem equalN_any {P : Program} (hm : P.follows .mixedOrders = true) {f : FuncId} {k : Nat} {ts : List Nat} (hf : cfun P f = some (equalN k ts)) {α : Type} (e : α → α → Bool) (c : α → List AV) (hc : ∀ x, (c x).length = k) (hu : ∀ x, (c x).map AV.unown = c x) (he : ∀ x y, eqCs ts (c x) (c y) = some (e x y)) (xs ys : List α) (h : List (List AV)) (hl : xs.length ≤ 140737488355328) :
    Contract P f [.sl k (enc c xs) none .no, .sl k (enc c ys) none .no] h (.v (.bool (eqL e xs ys))) h [] := by
  refine contract_of hf hm (by simp [equalN]) fun hh hargs => ?_
  simp at hargs
  by_cases hlen : xs.length = ys.length
  · simp [equalN, hlen]
    refine xloop_ok (D := Nat) (fun j => ⟨[(0, .sl k (enc c xs) none .no), (1, .sl k (enc c ys) none .no), (12, .v (.int .i64 ys.length)), (13, .v (.int .i64 j))], [], h, []⟩) (fun j => j ≤ xs.length ∧ ∀ i (h1 : i < xs.length) (h2 : i < ys.length), i < j → (e : α → α → Bool) xs[i] ys[i] = true) (fun j => xs.length - j) 0 ⟨by omega, fun i h1 h2 h3 => by omega⟩ ?_ ?_
    · simp [Leq, hh, hargs]
    · rintro j ⟨hj, hp⟩
      simp
      refine xwp_cond_of (decide (j < ys.length)) (by simp) (fun hlt => ?_) (fun hge => ?_)
      · simp at hlt
        have hlt' : j < xs.length := by omega
        have hw : IntKind.i64.wrap ((j : Int) + 1) = (j : Int) + 1 := wrap64 (by omega) (by omega)
        simp [hlt, hlt', hc, hu, he]
        refine xwp_cond_of (!e xs[j] ys[j]) (by simp) (fun ht => ?_) (fun hf' => ?_)
        · simp at ht
          have : eqL e xs ys = false := eqL_no (i := j) hlt' hlt (by simpa using ht)
          simp [hh, this]
        · simp at hf'
          simp
          refine ⟨j + 1, ⟨by omega, fun i h1 h2 h3 => ?_⟩, by omega, ?_⟩
          · rcases Nat.lt_or_ge i j with h4 | h4
            · simpa using hp i h1 h2 h4
            · have : i = j := by omega
              subst this; simpa using hf'
          · simp [Leq, hh, hargs, hw]
      · simp at hge
        have hx : eqL e xs ys = true := (eqL_iff _ xs ys).2 ⟨hlen, fun i h1 h2 => hp i h1 h2 (by omega)⟩
        simp [hh, hx]
  · have hne : (xs.length : Int) ≠ ys.length := by omega
    have hx : eqL e xs ys = false := eqL_len hlen
    simp [equalN, hne, hh, hx]

def equalF (z : List AV) (k : Nat) : XFun := ⟨32, (.seq (.ops [⟨(some 6), (.assign (.const (.bool false))), none⟩]) (.seq (.seq (.ops [⟨(some 10), (.move (.tmp 0)), none⟩, ⟨(some 11), (.lenL (.tmp 10)), none⟩, ⟨(some 12), (.move (.tmp 1)), none⟩, ⟨(some 13), (.lenL (.tmp 12)), none⟩, ⟨(some 14), (.bin .neq (.tmp 11) (.tmp 13)), none⟩]) (.cond (.tmp 14) (.seq (.ops [⟨(some 6), (.assign (.const (.bool false))), none⟩]) .ret) .skip)) (.seq (.seq (.ops [⟨(some 15), (.move (.tmp 0)), none⟩, ⟨(some 16), (.lenL (.tmp 15)), none⟩, ⟨(some 17), (.move (.const (.int .i64 0))), none⟩]) (.block 0 (.loop (.seq (.ops [⟨(some 18), (.bin .lss (.tmp 17) (.tmp 16)), none⟩]) (.seq (.cond (.tmp 18) .skip (.exit 0)) (.seq (.block 1 (.seq (.ops [⟨(some 19), (.move (.tmp 17)), none⟩, ⟨(some 20), (.iaddr k (.tmp 15) (.tmp 17)), none⟩, ⟨(some 21), (.loadN k (.tmp 20)), none⟩, ⟨(some 8), (.alloc z), none⟩, ⟨(some 7), (.assign (.tmp 19)), none⟩, ⟨none, (.store k (.tmp 8) (.tmp 21)), none⟩]) (.seq (.ops [⟨(some 22), (.move (.tmp 1)), none⟩, ⟨(some 23), (.move (.tmp 7)), none⟩, ⟨(some 24), (.iaddr k (.tmp 22) (.tmp 23)), none⟩, ⟨(some 25), (.loadN k (.tmp 24)), none⟩, ⟨(some 9), (.alloc z), none⟩, ⟨none, (.store k (.tmp 9) (.tmp 25)), none⟩]) (.seq (.ops [⟨(some 26), (.move (.tmp 2)), none⟩, ⟨(some 27), (.loadN k (.tmp 8)), none⟩, ⟨(some 28), (.loadN k (.tmp 9)), none⟩, ⟨(some 29), (.callv (.tmp 26) [(.tmp 27), (.tmp 28)]), none⟩, ⟨(some 30), (.un .not (.tmp 29)), none⟩]) (.cond (.tmp 30) (.seq (.ops [⟨(some 6), (.assign (.const (.bool false))), none⟩]) .ret) .skip))))) (.ops [⟨(some 31), (.bin .add (.tmp 17) (.const (.int .i64 1))), none⟩, ⟨(some 17), (.move (.tmp 31)), none⟩]))))))) (.seq (.ops [⟨(some 6), (.assign (.const (.bool true))), none⟩]) .ret)))), [(.move (.tmp 6))]⟩

theorem equalF_any {P : Program} (hm : P.follows .mixedOrders = true) {f g : FuncId} {z : List AV} {k : Nat} (hf : cfun P f = some (equalF z k)) (hz : z.length = k) {α : Type} (e : α → α → Bool) (c : α → List AV) (hc : ∀ x, (c x).length = k) (hu : ∀ x, (c x).map AV.unown = c x) (xs ys : List α) (h : List (List AV))
    (hg : ∀ x y h, Contract P g [.agg (c x), .agg (c y)] h (.v (.bool (e x y))) h []) (hl : xs.length ≤ 140737488355328) :
    Contract P f [.sl k (enc c xs) none .no, .sl k (enc c ys) none .no, .fn (.func g) [] []] h (.v (.bool (eqL e xs ys))) h [] := by
  refine contract_of hf hm (by simp [equalF]) fun hh hargs => ?_
  simp at hargs
  have tk : ∀ x, (c x).take k = c x := fun x => List.take_of_length_le (by rw [hc]; exact Nat.le_refl _)
  by_cases hlen : xs.length = ys.length
  · simp [equalF, hlen]
    refine xloop_ok (D := Nat) (fun j => ⟨[(0, .sl k (enc c xs) none .no), (1, .sl k (enc c ys) none .no), (2, .fn (.func g) [] []), (15, .sl k (enc c xs) none .no), (16, .v (.int .i64 ys.length)), (17, .v (.int .i64 j))], [], h, []⟩) (fun j => j ≤ xs.length ∧ ∀ i (h1 : i < xs.length) (h2 : i < ys.length), i < j → e xs[i] ys[i] = true) (fun j => xs.length - j) 0 ⟨by omega, fun i h1 h2 h3 => by omega⟩ ?_ ?_
    · simp [Leq, hh, hargs]
    · rintro j ⟨hj, hp⟩
      simp
      refine xwp_cond_of (decide (j < ys.length)) (by simp) (fun hlt => ?_) (fun hge => ?_)
      · simp at hlt
        have hlt' : j < xs.length := by omega
        have hw : IntKind.i64.wrap ((j : Int) + 1) = (j : Int) + 1 := wrap64 (by omega) (by omega)
        simp [hlt, hlt', hc, hu, hz, lay_full, tk]
        refine xcall_self (by simp) (hg _ _ _) ?_
        simp
        refine xwp_cond_of (!e xs[j] ys[j]) (by simp) (fun ht => ?_) (fun hf' => ?_)
        · simp at ht
          simp [hh, eqL_no hlt' hlt ht]
        · simp at hf'
          simp
          refine ⟨j + 1, ⟨by omega, fun i h1 h2 h3 => ?_⟩, by omega, ?_⟩
          · rcases Nat.lt_or_ge i j with h4 | h4
            · exact hp i h1 h2 h4
            · have : i = j := by omega
              subst this; exact hf'
          · simp [Leq, hh, hargs, hw]
      · simp at hge
        have hx : eqL e xs ys = true := (eqL_iff _ xs ys).2 ⟨hlen, fun i h1 h2 => hp i h1 h2 (by omega)⟩
        simp [hh, hx]
  · have hne : (xs.length : Int) ≠ ys.length := by omega
    have hx : eqL e xs ys = false := eqL_len hlen
    simp [equalF, hne, hh, hx]
end Go.Proofs.YtofkddajlgebjaaGreat.Ax
namespace Go.Proofs.YtofkddajlgebjaaGreat.Ax
open Go.RowKit Go By
set_option linter.unusedSimpArgs false
set_option maxRecDepth 10000

/-! ### A variable that is not written any more -/
@[simp] theorem frz_v (i : Nat) (cs : List AV) (x : Value) : (AV.v x).frz i cs = .v x := of_eq_true (eq_self _)
@[simp] theorem frz_any (i : Nat) (cs : List AV) : AV.any.frz i cs = .any := of_eq_true (eq_self _)
@[simp] theorem frz_box (i : Nat) (cs : List AV) (j o : Nat) : (AV.box j o).frz i cs = .box j o := of_eq_true (eq_self _)
@[simp] theorem frz_ro (i : Nat) (cs l : List AV) : (AV.ro l).frz i cs = .ro l := of_eq_true (eq_self _)
@[simp] theorem frz_sl (i : Nat) (cs : List AV) (k : Nat) (es : List (List AV)) (nul : Option Bool) (room : Room) : (AV.sl k es nul room).frz i cs = .sl k es nul room := of_eq_true (eq_self _)
@[simp] theorem frz_fn (i : Nat) (cs : List AV) (f : Fn) (a b : List AV) : (AV.fn f a b).frz i cs = .fn f a b := of_eq_true (eq_self _)
@[simp] theorem frz_agg (i : Nat) (cs l : List AV) : (AV.agg l).frz i cs = .agg l := of_eq_true (eq_self _)
@[simp] theorem frz_tup (i : Nat) (cs l : List AV) : (AV.tup l).frz i cs = .tup l := of_eq_true (eq_self _)
@[simp] theorem r_frzE_nil (i : Nat) (cs : List AV) : frzE i cs [] = [] := of_eq_true (eq_self _)
@[simp] theorem r_frzE_cons (i : Nat) (cs : List AV) (t : Nat) (a : AV) (r : List (Nat × AV)) : frzE i cs ((t, a) :: r) = (t, a.frz i cs) :: frzE i cs r := of_eq_true (eq_self _)
@[simp] theorem r_frz (i : Nat) (cs : List AV) (e o : List (Nat × AV)) (h : List (List AV)) (wr : List Nat) : (St.mk e o h wr).frz i cs = ⟨frzE i cs e, o, h.set i [], wr⟩ := of_eq_true (eq_self _)
end Go.Proofs.YtofkddajlgebjaaGreat.Ax
