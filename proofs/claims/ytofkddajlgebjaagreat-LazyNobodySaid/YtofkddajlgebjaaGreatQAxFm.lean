/- Front's messages there and back, on lists of bytes: what both sides check is one; what is read has just these bytes. -/
import Derived.Test.YtofkddajlgebjaaGreatQAxU
import Derived.Test.YtofkddajlgebjaaGreatQAxSc
import Derived.Test.YtofkddajlgebjaaGreatQAxWo
import Derived.Test.YtofkddajlgebjaaGreatQAxPl
import Derived.Test.YtofkddajlgebjaaGreatQAxFr
/- The document's answers: the same numbers, the same cells. -/
namespace Go.Proofs.YtofkddajlgebjaaGreat.Ax
open Go.RowKit Go By
set_option linter.unusedSimpArgs false
set_option linter.unusedVariables false
set_option maxRecDepth 10000

end Go.Proofs.YtofkddajlgebjaaGreat.Ax
/- The document's answers for front, over values without memory: checks, what is the same. -/
namespace Go.Proofs.YtofkddajlgebjaaGreat.Ax
open Go.RowKit Go By YtofkddajlgebjaaGreat.Nm Sc Dg
set_option linter.unusedSimpArgs false
set_option linter.unusedVariables false
set_option maxRecDepth 10000

end Go.Proofs.YtofkddajlgebjaaGreat.Ax
/- Front's messages as bytes, over values without memory: both sides. -/
namespace Go.Proofs.YtofkddajlgebjaaGreat.Ax
open Go.RowKit Go By YtofkddajlgebjaaGreat.Nm Sc Dg
set_option linter.unusedSimpArgs false
set_option linter.unusedVariables false
set_option maxRecDepth 10000

/-! ### slices.Concat -/
def bytC (b : List UInt8) : List AV := [.sl 1 (bytesE b) none .no]
@[simp] theorem ltLL_bytC (n : Nat) (l : List (List UInt8)) : ltLL n (enc bytC l) := ltLL_enc bytC n (fun _ => by simp [bytC]) l
/-- Lists of bytes, one behind the other. -/
def catL (l : List (List UInt8)) : List UInt8 := l.flatMap id
theorem catL_step (l : List (List UInt8)) (a j : Nat) (hj : j < l.length) (N : Nat) (hN : a + (catL l).length ≤ N) : catL (l.take (j + 1)) = catL (l.take j) ++ l[j] ∧ a + ((catL (l.take j)).length + l[j].length) ≤ N := flat_step id l a j hj N hN
@[simp] theorem catL_nil : catL [] = [] := of_eq_true (eq_self _)
@[simp] theorem catL_cons (x : List UInt8) (l : List (List UInt8)) : catL (x :: l) = x ++ catL l := of_eq_true (eq_self _)
theorem concat_c (l : List (List UInt8)) (h : List (List AV)) (hl : (catL l).length ≤ 140737488355328) (hn : l.length ≤ 140737488355328) : Contract Tryz.prog 19 [.sl 1 (enc bytC l) none .no] h (.sl 1 (bytesE (catL l)) none (.own .res)) h [] := by
  refine contract_of k19 mixed (by simp [c19]) fun hh hargs => ?_
  simp [c19]
  refine xloop_ok (D := Nat) (fun j => ⟨[(0, .sl 1 (enc bytC l) none .no), (3, .v (.int .i64 (catL (l.take j)).length)), (9, .sl 1 (enc bytC l) none .no), (10, .v (.int .i64 l.length)), (11, .v (.int .i64 j))], [], h, []⟩) (fun j => j ≤ l.length) (fun j => l.length - j) 0 (by simp) ?_ ?_
  · simp [Leq, hh]
  · intro j hj
    by_cases hlt : j < l.length
    · have hw : IntKind.i64.wrap ((j : Int) + 1) = (j : Int) + 1 := wrap64 (by omega) (by omega)
      obtain ⟨hx, hb⟩ := catL_step l 0 j hlt _ (by simpa using hl)
      have hw2 : IntKind.i64.wrap (((catL (l.take j)).length : Int) + (l[j].length : Int)) = ((catL (l.take (j + 1))).length : Int) := by
        rw [hx, List.length_append, wrap64 (by omega) (by omega)]; simp
      have h0 : ¬ ((catL (l.take (j + 1))).length : Int) < 0 := by omega
      simp [hlt, bytC, hw, hw2, h0]
      refine ⟨j + 1, by omega, by omega, ?_⟩
      simp [Leq, hh]
    · have : j = l.length := by omega
      subst this
      simp 
      refine xcall_self (by simp) (grow_c _ hl h) ?_
      simp 
      refine xloop_ok (D := Nat) (fun j => ⟨[(25, .sl 1 (enc bytC l) none .no), (26, .v (.int .i64 l.length)), (27, .v (.int .i64 j))], [(6, .sl 1 (bytesE (catL (l.take j))) none (.own (.slot 6)))], h, []⟩) (fun j => j ≤ l.length) (fun j => l.length - j) 0 (by simp) ?_ ?_
      · simp [Leq, hh]
      · intro j hj
        by_cases hlt : j < l.length
        · have hw : IntKind.i64.wrap ((j : Int) + 1) = (j : Int) + 1 := wrap64 (by omega) (by omega)
          obtain ⟨hx, hb⟩ := catL_step l 0 j hlt _ (by simpa using hl)
          simp [hlt, bytC, hw]
          refine ⟨by omega, j + 1, by omega, by omega, ?_⟩
          simp [Leq, hh, hx]
        · have : j = l.length := by omega
          subst this
          simp [hh]

/-! ### A body -/
end Go.Proofs.YtofkddajlgebjaaGreat.Ax
/- Front's messages out of bytes, over values without memory: both sides. -/
namespace Go.Proofs.YtofkddajlgebjaaGreat.Ax
open Go.RowKit Go By YtofkddajlgebjaaGreat.Nm Sc Dg
set_option linter.unusedSimpArgs false
set_option linter.unusedVariables false
set_option maxRecDepth 10000

abbrev numbersV (size : Int) (st : Sta) : List Int := listV (numV · size) (numS · size) st
abbrev numbersS (size : Int) (st : Sta) : Sta := listS (numV · size) (numS · size) st
abbrev cellsV (st : Sta) : List Cl := listV cellV cellS st
abbrev cellsS (st : Sta) : Sta := listS cellV cellS st
open He (textL)
end Go.Proofs.YtofkddajlgebjaaGreat.Ax
/- The document's messages of front as bytes and out of bytes, over values without memory. -/
namespace Go.Proofs.YtofkddajlgebjaaGreat.Ax
open Go.RowKit Go By YtofkddajlgebjaaGreat.Nm Sc Dg
set_option linter.unusedSimpArgs false
set_option linter.unusedVariables false
set_option maxRecDepth 10000
open He (textL)

abbrev rnumbersQ (size : Int) (r : Rs) : Rs := listRs (rstep (numS · size)) r
abbrev rcellsQ (r : Rs) : Rs := listRs rcellQ r
abbrev numbersU (size : Int) (st : Sta) : List Int := listU (numV · size) (numS · size) st
end Go.Proofs.YtofkddajlgebjaaGreat.Ax
namespace Go.Proofs.YtofkddajlgebjaaGreat.Ax
open Go.RowKit Go By YtofkddajlgebjaaGreat.Nm Sc Dg
open He (textL)
set_option linter.unusedSimpArgs false
set_option linter.unusedVariables false

/-! ### What both sides check is one -/
/-! ### What is read, kind by kind -/
section
variable (st : Sta)
end
/-! ### A message is read from its bytes -/
/-! ### What is read has just these bytes -/
end Go.Proofs.YtofkddajlgebjaaGreat.Ax
