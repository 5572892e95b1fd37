/- The engine over values without memory: what it is, and its calls; the document's. -/
import Derived.Test.YtmdapcmdlblnnaaDoorQAxXr
import Derived.Test.YtmdapcmdlblnnaaDoorRows
import Derived.Test.YtmdapcmdlblnnaaDoorQAxCm
import Derived.Test.YtmdapcmdlblnnaaDoorQAxKc0
import Derived.Test.YtmdapcmdlblnnaaDoorQAxAt
import Derived.Test.YtmdapcmdlblnnaaDoorQAxSt
import Derived.Test.YtmdapcmdlblnnaaDoorQAxSv
import Derived.Test.YtmdapcmdlblnnaaDoorQAxKb
/- The texts of functions over values without memory, as the kernel reckons them out of the program. -/
namespace Go.Proofs.YtmdapcmdlblnnaaDoor.Ax
open Go.RowKit Go By

end Go.Proofs.YtmdapcmdlblnnaaDoor.Ax
/- A row of cells, with bytes of its own. -/
namespace Go.Proofs.YtmdapcmdlblnnaaDoor.Ax
open Go.RowKit Go By Sc Dg
set_option linter.unusedSimpArgs false
set_option linter.unusedVariables false
set_option maxRecDepth 10000
end Go.Proofs.YtmdapcmdlblnnaaDoor.Ax
namespace Go.Proofs.YtmdapcmdlblnnaaDoor.Ax
open Go.RowKit Go By Dg
set_option linter.unusedSimpArgs false
set_option linter.unusedVariables false
set_option maxRecDepth 10000

/-- No cells. -/
def noC (_ : Unit) : List AV := []
theorem noC_len (v : Unit) : (noC v).length = 0 := rfl
theorem noC_plain (v : Unit) : ∀ c ∈ noC v, c.idOf = none := fun c hc => by cases hc
structure Eg where
  a : Nat
  n : Nat
  clock : Nat
  e : List (KE Unit)
def Eg.cells (T : Eg) : List AV := mapC T.clock (T.e.map (KE.ent noC))
def Eg.no (T : Eg) (k : List UInt8) : Bool := (KE.get k T.e).isSome
theorem Eg.of_cells (T : Eg) : mapOf 0 T.cells = some (T.clock, T.e.map (KE.ent noC)) := KE.ents_of noC_len _ _
theorem Eg.keys (T : Eg) : keysOk none (T.e.map (KE.ent noC)) := KE.ents_keys noC_plain _
theorem Eg.found (T : Eg) (k : List UInt8) : Ax.found false true [] (AEnt.find (.string (strB k)) (T.e.map (KE.ent noC)) 0) = .tup [.agg [], .v (.bool (T.no k))] := by
  rw [KE.found_eq]
  unfold Eg.no
  cases KE.get k T.e <;> rfl
def egC (a : Nat) (n : Nat) : List AV := [.mp a 0 false, .v (.int .i64 (n : Int))]
structure EgAt (h : List (List AV)) (i : Nat) (T : Eg) : Prop where
  top : h[i]? = some (egC T.a T.n)
  ents : h[T.a]? = some T.cells
  apart : i ≠ T.a
section
variable {h : List (List AV)} {i : Nat} {T : Eg}
theorem EgAt.i_lt (ht : EgAt h i T) : i < h.length := (List.getElem?_eq_some_iff.1 ht.top).1
theorem EgAt.a_lt (ht : EgAt h i T) : T.a < h.length := (List.getElem?_eq_some_iff.1 ht.ents).1
theorem EgAt.move (ht : EgAt h i T) {h' : List (List AV)} (h1 : h'[i]? = h[i]?) (h2 : h'[T.a]? = h[T.a]?) : EgAt h' i T := ⟨h1.trans ht.top, h2.trans ht.ents, ht.apart⟩
theorem EgAt.app (ht : EgAt h i T) (xs : List (List AV)) : EgAt (h ++ xs) i T := ht.move (List.getElem?_append_left ht.i_lt) (List.getElem?_append_left ht.a_lt)
theorem made_c (ht : EgAt h i T) : Contract Tryd.prog 21 [.box i 0] h (.v (.bool true)) h [] := by
  have h1 := ht.top
  refine contract_of k21 mixed (by simp [c21]) fun hh hargs => ?_
  simp [c21, h1, egC, hh]
theorem erefuses_c (ht : EgAt h i T) (k : List UInt8) : Contract Tryd.prog 22 [.box i 0, .v (.string (strB k))] h (.v (.bool (T.no k))) h [] := by
  have h1 := ht.top
  have h2 := ht.ents
  have h3 := T.of_cells
  have h4 := T.keys
  have h5 := T.found k
  have hi := ht.i_lt
  have ha := ht.a_lt
  have g1 : ∀ xs, (h ++ xs)[i]? = some (egC T.a T.n) := fun xs => by rw [List.getElem?_append_left hi]; exact h1
  have g2 : ∀ xs, (h ++ xs)[T.a]? = some T.cells := fun xs => by rw [List.getElem?_append_left ha]; exact h2
  refine contract_of k22 mixed (by simp [c22]) fun hh hargs => ?_
  simp [c22, h1, h2, h3, h4, h5, hh, egC, g1, g2]
theorem ecount_c (ht : EgAt h i T) : Contract Tryd.prog 17 [.box i 0] h (.v (.int .i64 (T.n : Int))) h [] := by
  have h1 := ht.top
  refine contract_of k17 mixed (by simp [c17]) fun hh hargs => ?_
  simp [c17]
  refine xcall_self (by simp) (made_c ht) ?_
  simp
  refine xcall_self (by simp) (atomLoad_c (n := (T.n : Int)) h1 rfl) ?_
  simp [hh]
theorem enext_c (ht : EgAt h i T) (hn : T.n ≤ 1000000) : Contract Tryd.prog 10 [.box i 0] h (.v (.int .i64 ((T.n + 1 : Nat) : Int))) (h.set i (egC T.a (T.n + 1))) [i] := by
  have h1 := ht.top
  have hi := ht.i_lt
  have ha := ht.a_lt
  have hw : IntKind.i64.wrap ((T.n : Int) + 1) = ((T.n + 1 : Nat) : Int) := wrap64 (by omega) (by omega)
  have key := atomAdd_c (n := (T.n : Int)) (d := 1) (off := 1) h1 rfl
  rw [hw] at key
  have e : (egC T.a T.n).set 1 (.v (.int .i64 ((T.n + 1 : Nat) : Int))) = egC T.a (T.n + 1) := rfl
  rw [e] at key
  refine contract_of k10 mixed (by simp [c10]) fun hh hargs => ?_
  simp [c10]
  refine xcall_self (by simp) (made_c ht) ?_
  simp
  refine xcall_self (by simp) key ?_
  simp [egC, ltLL_set, hh, ha]
end
end Go.Proofs.YtmdapcmdlblnnaaDoor.Ax
