/- Layer 18's statement: a cache is seen as it is, once all has come about. -/
import Derived.Test.YtkcampfbpmjacaaQAxTz
import Derived.Test.YtkcampfbpmjacaaQAxBa
import Derived.Test.YtkcampfbpmjacaaQAxIb
import Derived.Test.YtkcampfbpmjacaaQAxJd
import Derived.Test.YtkcampfbpmjacaaQAxVd
import Derived.Test.YtkcampfbpmjacaaQAxEq
/- Entries that are few, over values without memory. -/
namespace Go.Proofs.Ytkcampfbpmjacaa.Ax
open Go.RowKit Go By
set_option linter.unusedSimpArgs false
set_option linter.unusedVariables false
set_option maxRecDepth 10000

/-! ### Entries that are few -/
def fewE (e : En) : Bool := decide (e.good.length ≤ 10 ∧ e.bad.length ≤ 10 ∧ e.cache.length ≤ 10 ∧ e.reply.length ≤ 300 ∧ e.from_.length ≤ 300 ∧ e.to.length ≤ 300)
def fewEL (l : List En) (n : Int) : Bool := decide ((l.length : Int) ≤ n) && l.all fewE
end Go.Proofs.Ytkcampfbpmjacaa.Ax
/- Layer 18: whether a cache is seen as it will be; a cache that no call made; ops that are few. -/
namespace Go.Proofs.Ytkcampfbpmjacaa.Ax
open Go.RowKit Go By
set_option linter.unusedSimpArgs false
set_option linter.unusedVariables false
set_option maxRecDepth 10000

theorem CaAt.stay {lo : Nat} {h h' : List (List AV)} {i a most : Nat} {o : Option Nat} {c L : List Int} (ht : CaAt lo h i a most o c L) (hs : ∀ q, q < h.length → h'[q]? = h[q]?) (hlt : ltLL h'.length h') : CaAt lo h' i a most o c L :=
  ht.to (ht.lru.move (hs a ht.lru.i_lt) (fun b e => hs b (List.getElem?_eq_some_iff.1 (ht.lru.row b e).1).1) hlt) (hs i ht.i_lt) ht.apart.2
theorem fo_some {lo : Nat} {h : List (List AV)} {o : Option Nat} {c L : List Int} (ht : FoAt lo h o c L) (hL : L ≠ []) : ∃ b, o = some b ∧ h[b]? = some (intsA c) ∧ c.take L.length = L := by
  cases o with
  | none => exact absurd (ht.emp rfl) hL
  | some b => obtain ⟨h1, h2, h3, h4, h5⟩ := ht.row b rfl; exact ⟨b, rfl, h1, h4⟩
/-! ### Ops that are few -/
def ocL (l : List Oc) : List AV := [.sl 2 (enc ocC l) none .no]
def fewL (l : List (List Oc)) : Bool := decide (l.length ≤ 40 ∧ ∀ x ∈ l, x.length ≤ 10)
theorem fewL_iff {l : List (List Oc)} : fewL l = true ↔ l.length ≤ 40 ∧ ∀ x ∈ l, x.length ≤ 10 := by unfold fewL; simp
/-! ### A cache that no call made -/
section
variable {h : List (List AV)}
def zeroC18 : List AV := [.v (.pointer none), .v (.int .i64 0)]
end
end Go.Proofs.Ytkcampfbpmjacaa.Ax
namespace Go.Proofs.Ytkcampfbpmjacaa.Ax
open Go.RowKit Go By
set_option linter.unusedSimpArgs false
set_option linter.unusedVariables false
set_option maxRecDepth 10000

theorem opL_one {most : Nat} {L : List Int} (h : L.length < most) (op : Oc) : opL most L op = oneL L op := by
  unfold opL oneL addL
  have hn : ¬ most ≤ L.length := by omega
  simp [hn]
theorem opsL_fold {most : Nat} : ∀ (ops : List Oc) {L : List Int}, L.length + ops.length ≤ most → opsL most L ops = foldL L ops
  | [], _, _ => rfl
  | op :: r, L, h => by
    rw [List.length_cons] at h
    have h1 := oneL_len L op
    show opsL most (opL most L op) r = foldL (oneL L op) r
    rw [opL_one (by omega)]
    exact opsL_fold r (by omega)
def opsE (most : Nat) (L : List Int) (l : List En) : List Int := l.foldl (fun L e => opsL most L e.cache) L
theorem opsE_next {most : Nat} {L : List Int} {l : List En} {j : Nat} (hj : j < l.length) : opsE most L (l.take (j + 1)) = opsL most (opsE most L (l.take j)) l[j].cache := by
  unfold opsE; rw [take_next hj, List.foldl_append]; rfl
theorem opsE_spec {most : Nat} : ∀ (l : List En) {L : List Int}, (∀ e ∈ l, e.cache.length ≤ 10) → L.length + 10 * l.length ≤ most → opsE most L l = specL L l
  | [], _, _, _ => rfl
  | e :: r, L, h, hb => by
    rw [List.length_cons] at hb
    have h1 := h e (List.mem_cons_self ..)
    have h2 := foldL_len e.cache L
    show opsE most (opsL most L e.cache) r = specL (foldL L e.cache) r
    rw [opsL_fold _ (by omega)]
    exact opsE_spec r (fun x hx => h x (List.mem_cons_of_mem _ hx)) (by omega)
section
variable {lo : Nat} {h : List (List AV)} {i a most : Nat} {o : Option Nat} {c L : List Int}
end
end Go.Proofs.Ytkcampfbpmjacaa.Ax
