/- The functions of package slices that find by a function, that compare lists, over values without memory. No program is named here. Written by gen/slices.py. -/
import Derived.Test.YtplbobfbdlapcaaQAxX
namespace Go.Proofs.Ytplbobfbdlapcaa.Ax
open Go.RowKit Go By
set_option linter.unusedSimpArgs false
set_option maxRecDepth 10000

/-- Where the first one is that p tells of; -1, if there is none. -/
def idxI {α : Type} (p : α → Bool) (l : List α) : Int := match l.findIdx? p with | some i => (i : Int) | none => -1
theorem idxI_of {α : Type} {p : α → Bool} {xs : List α} {j : Nat} (hj : j < xs.length) (h1 : ∀ x ∈ xs.take j, p x = false) (h2 : p xs[j] = true) : idxI p xs = j := by
  have : xs.findIdx? p = some j := by
    rw [List.findIdx?_eq_some_iff_getElem]
    refine ⟨hj, h2, fun k hk => ?_⟩
    have := h1 xs[k] (List.mem_take_iff_getElem.2 ⟨k, by omega, rfl⟩)
    simp [this]
  unfold idxI; rw [this]
theorem idxI_none {α : Type} {p : α → Bool} {xs : List α} (h1 : ∀ x ∈ xs, p x = false) : idxI p xs = -1 := by
  have : xs.findIdx? p = none := by
    rw [List.findIdx?_eq_none_iff]; exact h1
  unfold idxI; rw [this]
theorem idxI_any {α : Type} (p : α → Bool) (xs : List α) : decide (0 ≤ idxI p xs) = xs.any p := by
  cases h : xs.findIdx? p with
  | none =>
    have h1 := List.findIdx?_eq_none_iff.1 h
    have h2 : xs.any p = false := by simpa using h1
    unfold idxI; rw [h, h2]; rfl
  | some i =>
    obtain ⟨hi, h1, _⟩ := List.findIdx?_eq_some_iff_getElem.1 h
    have h2 : xs.any p = true := List.any_eq_true.2 ⟨_, List.getElem_mem hi, h1⟩
    unfold idxI; rw [h, h2]; simp
theorem take_none {α : Type} {p : α → Bool} {xs : List α} {j : Nat} (hj : j < xs.length) (h1 : ∀ x ∈ xs.take j, p x = false) (h2 : p xs[j] = false) : ∀ x ∈ xs.take (j + 1), p x = false := by
  rw [take_next hj]
  intro x hx
  rcases List.mem_append.1 hx with h | h
  · exact h1 x h
  · simp at h; subst h; exact h2

def containsX (f : FuncId) : XFun := ⟨9, (.seq (.ops [⟨(some 4), (.assign (.const (.bool false))), none⟩]) (.seq (.ops [⟨(some 5), (.move (.tmp 0)), none⟩, ⟨(some 6), (.move (.tmp 1)), none⟩, ⟨(some 7), (.call f [(.tmp 5), (.tmp 6)]), none⟩, ⟨(some 8), (.bin .geq (.tmp 7) (.const (.int .i64 0))), none⟩, ⟨(some 4), (.assign (.tmp 8)), none⟩]) .ret)), [(.move (.tmp 4))]⟩

def index1 : XFun := ⟨19, (.seq (.ops [⟨(some 4), (.assign (.const (.int .i64 0))), none⟩]) (.seq (.seq (.ops [⟨(some 6), (.move (.tmp 0)), none⟩, ⟨(some 7), (.lenL (.tmp 6)), none⟩, ⟨(some 8), (.move (.const (.int .i64 0))), none⟩]) (.block 0 (.loop (.seq (.ops [⟨(some 9), (.bin .lss (.tmp 8) (.tmp 7)), none⟩]) (.seq (.cond (.tmp 9) .skip (.exit 0)) (.seq (.block 1 (.seq (.ops [⟨(some 10), (.move (.tmp 8)), none⟩, ⟨(some 5), (.assign (.tmp 10)), none⟩]) (.seq (.ops [⟨(some 11), (.move (.tmp 1)), none⟩, ⟨(some 12), (.move (.tmp 0)), none⟩, ⟨(some 13), (.move (.tmp 5)), none⟩, ⟨(some 14), (.iaddr 1 (.tmp 12) (.tmp 13)), none⟩, ⟨(some 15), (.load1 (.tmp 14)), none⟩, ⟨(some 16), (.callv (.tmp 11) [(.tmp 15)]), none⟩]) (.cond (.tmp 16) (.seq (.ops [⟨(some 17), (.move (.tmp 5)), none⟩, ⟨(some 4), (.assign (.tmp 17)), none⟩]) .ret) .skip)))) (.ops [⟨(some 18), (.bin .add (.tmp 8) (.const (.int .i64 1))), none⟩, ⟨(some 8), (.move (.tmp 18)), none⟩]))))))) (.seq (.ops [⟨(some 4), (.assign (.const (.int .i64 (-1)))), none⟩]) .ret))), [(.move (.tmp 4))]⟩
theorem index1_any {P : Program} (hm : P.follows .mixedOrders = true) {f g : FuncId} (hf : cfun P f = some (index1)) {α : Type} (c : α → AV) (p : α → Bool) (xs : List α) (cap : List AV) (h : List (List AV)) (hcap : ∀ c ∈ cap, c.idOf = none) (hc : ∀ x, (c x).idOf = none) (hu : ∀ x, (c x).unown = c x)
    (hg : ∀ x, x ∈ xs → Contract P g ((c x) :: cap) h (.v (.bool (p x))) h []) (hl : xs.length ≤ 140737488355328) :
    Contract P f [.sl 1 (enc (fun x => [c x]) xs) none .no, .fn (.func g) [] cap] h (.v (.int .i64 (idxI p xs))) h [] := by
  refine contract_of hf hm (by simp [index1]) fun hh hargs => ?_
  simp at hargs
  simp [index1]
  refine xloop_ok (D := Nat) (fun j => ⟨[(0, .sl 1 (enc (fun x => [c x]) xs) none .no), (1, .fn (.func g) [] cap), (7, .v (.int .i64 xs.length)), (8, .v (.int .i64 j))], [], h, []⟩) (fun j => j ≤ xs.length ∧ ∀ x ∈ xs.take j, p x = false) (fun j => xs.length - j) 0 (by simp) ?_ ?_
  · simp [Leq, hh, hargs]
  · rintro j ⟨hj, hp⟩
    simp
    refine xwp_cond_of (decide (j < xs.length)) (by simp) (fun hlt => ?_) (fun hge => ?_)
    · simp at hlt
      have hq : ∀ y ∈ (c xs[j]) :: cap, y.idOf = none := by simpa [hc] using hcap
      have hw : IntKind.i64.wrap ((j : Int) + 1) = (j : Int) + 1 := wrap64 (by omega) (by omega)
      simp [hlt, hc, hu]
      refine ⟨hcap, xcall_self hq (hg xs[j] (List.getElem_mem _)) ?_⟩
      simp [idsOf_none hq]
      refine xwp_cond_of (p xs[j]) (by simp) (fun ht => ?_) (fun hf' => ?_)
      · simp [hh, idxI_of hlt hp ht]
      · simp
        refine ⟨j + 1, ⟨by omega, take_none hlt hp hf'⟩, by omega, ?_⟩
        simp [Leq, hh, hargs, hw]
    · simp at hge
      have hj' : j = xs.length := by omega
      subst hj'
      simp at hp
      simp [hh, idxI_none hp]

def indexN (k : Nat) : XFun := ⟨19, (.seq (.ops [⟨(some 4), (.assign (.const (.int .i64 0))), none⟩]) (.seq (.seq (.ops [⟨(some 6), (.move (.tmp 0)), none⟩, ⟨(some 7), (.lenL (.tmp 6)), none⟩, ⟨(some 8), (.move (.const (.int .i64 0))), none⟩]) (.block 0 (.loop (.seq (.ops [⟨(some 9), (.bin .lss (.tmp 8) (.tmp 7)), none⟩]) (.seq (.cond (.tmp 9) .skip (.exit 0)) (.seq (.block 1 (.seq (.ops [⟨(some 10), (.move (.tmp 8)), none⟩, ⟨(some 5), (.assign (.tmp 10)), none⟩]) (.seq (.ops [⟨(some 11), (.move (.tmp 1)), none⟩, ⟨(some 12), (.move (.tmp 0)), none⟩, ⟨(some 13), (.move (.tmp 5)), none⟩, ⟨(some 14), (.iaddr k (.tmp 12) (.tmp 13)), none⟩, ⟨(some 15), (.loadN k (.tmp 14)), none⟩, ⟨(some 16), (.callv (.tmp 11) [(.tmp 15)]), none⟩]) (.cond (.tmp 16) (.seq (.ops [⟨(some 17), (.move (.tmp 5)), none⟩, ⟨(some 4), (.assign (.tmp 17)), none⟩]) .ret) .skip)))) (.ops [⟨(some 18), (.bin .add (.tmp 8) (.const (.int .i64 1))), none⟩, ⟨(some 8), (.move (.tmp 18)), none⟩]))))))) (.seq (.ops [⟨(some 4), (.assign (.const (.int .i64 (-1)))), none⟩]) .ret))), [(.move (.tmp 4))]⟩
theorem indexN_any {P : Program} (hm : P.follows .mixedOrders = true) {f g : FuncId} {k : Nat} (hf : cfun P f = some (indexN k)) {α : Type} (c : α → List AV) (p : α → Bool) (xs : List α) (cap : List AV) (h : List (List AV)) (hcap : ∀ c ∈ cap, c.idOf = none) (hc : ∀ x, (c x).length = k) (hu : ∀ x, (c x).map AV.unown = c x)
    (hg : ∀ x, x ∈ xs → Contract P g ((.agg (c x)) :: cap) h (.v (.bool (p x))) h []) (hl : xs.length ≤ 140737488355328) :
    Contract P f [.sl k (enc c xs) none .no, .fn (.func g) [] cap] h (.v (.int .i64 (idxI p xs))) h [] := by
  refine contract_of hf hm (by simp [indexN]) fun hh hargs => ?_
  simp at hargs
  simp [indexN]
  refine xloop_ok (D := Nat) (fun j => ⟨[(0, .sl k (enc c xs) none .no), (1, .fn (.func g) [] cap), (7, .v (.int .i64 xs.length)), (8, .v (.int .i64 j))], [], h, []⟩) (fun j => j ≤ xs.length ∧ ∀ x ∈ xs.take j, p x = false) (fun j => xs.length - j) 0 (by simp) ?_ ?_
  · simp [Leq, hh, hargs]
  · rintro j ⟨hj, hp⟩
    simp
    refine xwp_cond_of (decide (j < xs.length)) (by simp) (fun hlt => ?_) (fun hge => ?_)
    · simp at hlt
      have hq : ∀ y ∈ (.agg (c xs[j])) :: cap, y.idOf = none := by simpa using hcap
      have hw : IntKind.i64.wrap ((j : Int) + 1) = (j : Int) + 1 := wrap64 (by omega) (by omega)
      simp [hlt, hc, hu]
      refine ⟨hcap, xcall_self hq (hg xs[j] (List.getElem_mem _)) ?_⟩
      simp [idsOf_none hq]
      refine xwp_cond_of (p xs[j]) (by simp) (fun ht => ?_) (fun hf' => ?_)
      · simp [hh, idxI_of hlt hp ht]
      · simp
        refine ⟨j + 1, ⟨by omega, take_none hlt hp hf'⟩, by omega, ?_⟩
        simp [Leq, hh, hargs, hw]
    · simp at hge
      have hj' : j = xs.length := by omega
      subst hj'
      simp at hp
      simp [hh, idxI_none hp]

theorem containsN_any {P : Program} (hm : P.follows .mixedOrders = true) {f f2 g : FuncId} {k : Nat} (hf : cfun P f = some (containsX f2)) (hf2 : cfun P f2 = some (indexN k)) {α : Type} (c : α → List AV) (p : α → Bool) (xs : List α) (cap : List AV) (h : List (List AV)) (hcap : ∀ c ∈ cap, c.idOf = none) (hc : ∀ x, (c x).length = k) (hu : ∀ x, (c x).map AV.unown = c x)
    (hg : ∀ x, x ∈ xs → Contract P g ((.agg (c x)) :: cap) h (.v (.bool (p x))) h []) (hl : xs.length ≤ 140737488355328) :
    Contract P f [.sl k (enc c xs) none .no, .fn (.func g) [] cap] h (.v (.bool (xs.any p))) h [] := by
  refine contract_of hf hm (by simp [containsX]) fun hh hargs => ?_
  simp [containsX]
  refine xcall_self (by simp) (indexN_any hm hf2 c p xs cap h hcap hc hu hg hl) ?_
  simp [hh, idxI_any]

end Go.Proofs.Ytplbobfbdlapcaa.Ax
