import Derived.Test.YtknohkmpficjgaaGreatDoorQAxXr
import Derived.Test.YtknohkmpficjgaaGreatDoorRows
import Derived.Test.YtknohkmpficjgaaGreatDoorQAxDg
import Derived.Test.YtknohkmpficjgaaGreatDoorQAxSv
import Derived.Test.YtknohkmpficjgaaGreatDoorQAxRo
import Derived.Test.YtknohkmpficjgaaGreatDoorQAxAt
import Derived.Test.YtknohkmpficjgaaGreatDoorQAxSt
import Derived.Test.YtknohkmpficjgaaGreatDoorQAxCy
set_option linter.unusedSimpArgs false
set_option linter.unusedVariables false
namespace Go.Proofs.YtknohkmpficjgaaGreatDoor.Ax
open Go.RowKit Go By
def c194 : XFun := ⟨5, (.seq (.ops [⟨(some 2), (.assign (.const (.slice none 0 0))), none⟩]) (.seq (.ops [⟨(some 3), (.move (.tmp 0)), none⟩, ⟨(some 4), (.call 214 [(.tmp 3), (.func 215)]), none⟩, ⟨(some 2), (.assign (.tmp 4)), none⟩]) .ret)), [(.move (.tmp 2))]⟩
theorem k194 : cfun Tryz.prog 194 = some c194 := by kernel_rfl
def c135 : XFun := ⟨6, (.seq (.ops [⟨(some 2), (.alloc [(.v (.int .u8 0)), (.v (.int .u8 0)), (.v (.string (strB []))), (.v (.string (strB []))), (.v (.string (strB []))), (.v (.int .i64 0)), (.v (.int .i64 0)), (.sl 0 [] (some true) .exact), (.sl 0 [] (some true) .exact), (.sl 0 [] (some true) .exact), (.sl 0 [] (some true) .exact)]), none⟩]) (.seq (.ops [⟨(some 3), (.move (.tmp 0)), none⟩, ⟨(some 4), (.call 194 [(.tmp 3)]), none⟩, ⟨(some 5), (.build [(.v (.int .u8 0)), (.v (.int .u8 0)), (.v (.string (strB []))), (.v (.string (strB []))), (.v (.string (strB []))), (.v (.int .i64 0)), (.v (.int .i64 0)), (.sl 0 [] (some true) .exact), (.sl 0 [] (some true) .exact), (.sl 0 [] (some true) .exact), (.sl 0 [] (some true) .exact)] [(0, (1, (.const (.int .u8 84)))), (8, (1, (.tmp 4)))]), none⟩, ⟨none, (.store 11 (.tmp 2) (.tmp 5)), none⟩]) .ret)), [(.loadN 11 (.tmp 2))]⟩
theorem k135 : cfun Tryz.prog 135 = some c135 := by kernel_rfl
def c140 : XFun := ⟨5, (.seq (.ops [⟨(some 2), (.assign (.const (.slice none 0 0))), none⟩]) (.seq (.ops [⟨(some 3), (.move (.tmp 0)), none⟩, ⟨(some 4), (.call 195 [(.tmp 3), (.func 196)]), none⟩, ⟨(some 2), (.assign (.tmp 4)), none⟩]) .ret)), [(.move (.tmp 2))]⟩
theorem k140 : cfun Tryz.prog 140 = some c140 := by kernel_rfl
def c137 : XFun := ⟨6, (.seq (.ops [⟨(some 2), (.alloc [(.v (.int .u8 0)), (.v (.int .u8 0)), (.v (.string (strB []))), (.v (.string (strB []))), (.v (.string (strB []))), (.v (.int .i64 0)), (.v (.int .i64 0)), (.sl 0 [] (some true) .exact), (.sl 0 [] (some true) .exact), (.sl 0 [] (some true) .exact), (.sl 0 [] (some true) .exact)]), none⟩]) (.seq (.ops [⟨(some 3), (.move (.tmp 0)), none⟩, ⟨(some 4), (.call 141 [(.tmp 3)]), none⟩, ⟨(some 5), (.build [(.v (.int .u8 0)), (.v (.int .u8 0)), (.v (.string (strB []))), (.v (.string (strB []))), (.v (.string (strB []))), (.v (.int .i64 0)), (.v (.int .i64 0)), (.sl 0 [] (some true) .exact), (.sl 0 [] (some true) .exact), (.sl 0 [] (some true) .exact), (.sl 0 [] (some true) .exact)] [(0, (1, (.const (.int .u8 68)))), (9, (1, (.tmp 4)))]), none⟩, ⟨none, (.store 11 (.tmp 2) (.tmp 5)), none⟩]) .ret)), [(.loadN 11 (.tmp 2))]⟩
theorem k137 : cfun Tryz.prog 137 = some c137 := by kernel_rfl
def c138 : XFun := ⟨6, (.seq (.ops [⟨(some 2), (.assign (.const (.string (strB [])))), none⟩]) (.seq (.ops [⟨(some 3), (.move (.tmp 0)), none⟩, ⟨(some 4), (.call 142 [(.tmp 3)]), none⟩, ⟨(some 5), (.bin .add (.const (.string (strB [83, 69, 76, 69, 67, 84, 32]))) (.tmp 4)), none⟩, ⟨(some 2), (.assign (.tmp 5)), none⟩]) .ret)), [(.move (.tmp 2))]⟩
theorem k138 : cfun Tryz.prog 138 = some c138 := by kernel_rfl
def c214 : XFun := ⟨22, (.seq (.ops [⟨(some 4), (.assign (.const (.slice none 0 0))), none⟩]) (.seq (.ops [⟨(some 5), (.assign (.const (.slice none 0 0))), none⟩]) (.seq (.seq (.ops [⟨(some 7), (.move (.tmp 0)), none⟩, ⟨(some 8), (.maxI [(.tmp 7), (.const (.int .i64 0))]), none⟩, ⟨(some 9), (.minI [(.tmp 8), (.const (.int .i64 1000))]), none⟩, ⟨(some 10), (.move (.const (.int .i64 0))), none⟩]) (.block 0 (.loop (.seq (.ops [⟨(some 11), (.bin .lss (.tmp 10) (.tmp 9)), none⟩]) (.seq (.cond (.tmp 11) .skip (.exit 0)) (.seq (.block 1 (.seq (.ops [⟨(some 12), (.move (.tmp 10)), none⟩, ⟨(some 6), (.assign (.tmp 12)), none⟩]) (.ops [⟨(some 13), (.move (.tmp 5)), none⟩, ⟨(some 14), (.move (.tmp 1)), none⟩, ⟨(some 15), (.move (.tmp 6)), none⟩, ⟨(some 16), (.bin .add (.tmp 15) (.const (.int .i64 1))), none⟩, ⟨(some 17), (.callv (.tmp 14) [(.tmp 16)]), none⟩, ⟨(some 18), (.buildSlice 7 1 [(.v (.string (strB []))), (.v (.int .i64 0)), (.v (.int .i64 0)), (.v (.int .i64 0)), (.v (.int .i64 0)), (.v (.int .i64 0)), (.v (.int .i64 0))] [(0, (.tmp 17))]), none⟩, ⟨(some 19), (.append 7 64 (.tmp 13) (.tmp 18)), none⟩, ⟨(some 5), (.assign (.tmp 19)), none⟩]))) (.ops [⟨(some 20), (.bin .add (.tmp 10) (.const (.int .i64 1))), none⟩, ⟨(some 10), (.move (.tmp 20)), none⟩]))))))) (.seq (.ops [⟨(some 21), (.move (.tmp 5)), none⟩, ⟨(some 4), (.assign (.tmp 21)), none⟩]) .ret)))), [(.move (.tmp 4))]⟩
theorem k214 : cfun Tryz.prog 214 = some c214 := by kernel_rfl
def c195 : XFun := ⟨22, (.seq (.ops [⟨(some 4), (.assign (.const (.slice none 0 0))), none⟩]) (.seq (.ops [⟨(some 5), (.assign (.const (.slice none 0 0))), none⟩]) (.seq (.seq (.ops [⟨(some 7), (.move (.tmp 0)), none⟩, ⟨(some 8), (.maxI [(.tmp 7), (.const (.int .i64 0))]), none⟩, ⟨(some 9), (.minI [(.tmp 8), (.const (.int .i64 1000))]), none⟩, ⟨(some 10), (.move (.const (.int .i64 0))), none⟩]) (.block 0 (.loop (.seq (.ops [⟨(some 11), (.bin .lss (.tmp 10) (.tmp 9)), none⟩]) (.seq (.cond (.tmp 11) .skip (.exit 0)) (.seq (.block 1 (.seq (.ops [⟨(some 12), (.move (.tmp 10)), none⟩, ⟨(some 6), (.assign (.tmp 12)), none⟩]) (.ops [⟨(some 13), (.move (.tmp 5)), none⟩, ⟨(some 14), (.move (.tmp 1)), none⟩, ⟨(some 15), (.move (.tmp 6)), none⟩, ⟨(some 16), (.bin .add (.tmp 15) (.const (.int .i64 1))), none⟩, ⟨(some 17), (.callv (.tmp 14) [(.tmp 16)]), none⟩, ⟨(some 18), (.buildSlice 1 1 [(.sl 0 [] (some true) .exact)] [(0, (.tmp 17))]), none⟩, ⟨(some 19), (.append 1 24 (.tmp 13) (.tmp 18)), none⟩, ⟨(some 5), (.assign (.tmp 19)), none⟩]))) (.ops [⟨(some 20), (.bin .add (.tmp 10) (.const (.int .i64 1))), none⟩, ⟨(some 10), (.move (.tmp 20)), none⟩]))))))) (.seq (.ops [⟨(some 21), (.move (.tmp 5)), none⟩, ⟨(some 4), (.assign (.tmp 21)), none⟩]) .ret)))), [(.move (.tmp 4))]⟩
theorem k195 : cfun Tryz.prog 195 = some c195 := by kernel_rfl
def c215 : XFun := ⟨7, (.seq (.ops [⟨(some 2), (.alloc [(.v (.string (strB []))), (.v (.int .i64 0)), (.v (.int .i64 0)), (.v (.int .i64 0)), (.v (.int .i64 0)), (.v (.int .i64 0)), (.v (.int .i64 0))]), none⟩]) (.seq (.ops [⟨(some 3), (.move (.tmp 0)), none⟩, ⟨(some 4), (.call 142 [(.tmp 3)]), none⟩, ⟨(some 5), (.bin .add (.const (.string (strB [99]))) (.tmp 4)), none⟩, ⟨(some 6), (.build [(.v (.string (strB []))), (.v (.int .i64 0)), (.v (.int .i64 0)), (.v (.int .i64 0)), (.v (.int .i64 0)), (.v (.int .i64 0)), (.v (.int .i64 0))] [(0, (1, (.tmp 5))), (3, (1, (.const (.int .i64 25)))), (4, (1, (.const (.int .i64 (-1))))), (5, (1, (.const (.int .i64 (-1)))))]), none⟩, ⟨none, (.store 7 (.tmp 2) (.tmp 6)), none⟩]) .ret)), [(.loadN 7 (.tmp 2))]⟩
theorem k215 : cfun Tryz.prog 215 = some c215 := by kernel_rfl
def c196 : XFun := ⟨8, (.seq (.ops [⟨(some 2), (.assign (.const (.slice none 0 0))), none⟩]) (.seq (.ops [⟨(some 3), (.move (.tmp 0)), none⟩, ⟨(some 4), (.call 142 [(.tmp 3)]), none⟩, ⟨(some 5), (.s2b (.tmp 4)), none⟩, ⟨(some 6), (.build [(.v (.bool false)), (.sl 0 [] (some true) .exact)] [(1, (1, (.tmp 5)))]), none⟩, ⟨(some 7), (.buildSlice 2 1 [(.v (.bool false)), (.sl 0 [] (some true) .exact)] [(0, (.tmp 6))]), none⟩, ⟨(some 2), (.assign (.tmp 7)), none⟩]) .ret)), [(.move (.tmp 2))]⟩
theorem k196 : cfun Tryz.prog 196 = some c196 := by kernel_rfl
end Go.Proofs.YtknohkmpficjgaaGreatDoor.Ax
namespace Go.Proofs.YtknohkmpficjgaaGreatDoor.Ax
open Go.RowKit Go By YtknohkmpficjgaaGreatDoor.Nm Sc Dg
set_option maxRecDepth 10000
def heldI (n : Int) : Int := if n < 0 then 0 else if 1000 < n then 1000 else n
theorem heldI_eq (n : Int) : minZ (maxZ n [0]) [1000] = heldI n := by
 unfold minZ maxZ heldI
 simp only [List.foldl_cons, List.foldl_nil]
 repeat' split
 all_goals omega
theorem heldI_range (n : Int) : 0 <= heldI n /\ heldI n <= 1000 := by unfold heldI; repeat' split
                                                                      all_goals omega
def colK (i : Int) : Co := ⟨99 :: Dg.textL i, 0, 0, 25, -1, -1, 0⟩
def colsK (k : Nat) : List Co := (List.range k).map fun (j : Nat) => colK ((j : Int) + 1)
theorem colsK_succ (j : Nat) : colsK (j + 1) = colsK j ++ [colK ((j : Int) + 1)] := by unfold colsK; rw [List.range_succ, List.map_append]; rfl
theorem colsK_len (j : Nat) : (colsK j).length = j := by unfold colsK; simp
theorem kcol_c (n : Int) (h1 : -9223372036854775808 <= n) (h2 : n <= 9223372036854775807) (h : List (List AV)) : Contract Tryz.prog 215 [.v (.int .i64 n)] h (.agg (coC (colK n))) h [] := by
 have hl := dtext_len n h1 h2
 refine contract_of k215 mixed (by simp [c215]) fun hh hargs => ?_
 simp [c215]
 refine xcall_self (by simp) (dtext_c n h1 h2 _) ?_
 simp [hh, colK, coC_mk]
 omega
theorem knum_c (n : Int) (h : List (List AV)) : Contract Tryz.prog 214 [.v (.int .i64 n), .fn (.func 215) [] []] h (.sl 7 (enc coC (colsK (heldI n).toNat)) none .no) h [] := by
 obtain ⟨hk0, hk1⟩ := heldI_range n
 have e := heldI_eq n
 obtain ⟨k, hk⟩ : ∃ k : Nat, heldI n = k := ⟨(heldI n).toNat, by omega⟩
 refine contract_of k214 mixed (by simp [c214]) fun hh hargs => ?_
 rw [hk, Int.toNat_natCast]
 rw [hk] at e
 simp [c214, e]
 refine xloop_ok (D := Nat) (fun j => ⟨[(1, .fn (.func 215) [] []), (9, .v (.int .i64 k)), (10, .v (.int .i64 j))], [(5, .sl 7 (enc coC (colsK j)) none (.own (.slot 5)))], h, []⟩) (fun j => j <= k) (fun j => k - j) 0 (by simp) ?_ ?_
 ·simp [Leq, hh, colsK]
 ·intro j hj
  by_cases hlt : j < k
  ·have hw : IntKind.i64.wrap ((j : Int) + 1) = (j : Int) + 1 := wrap64 (by omega) (by omega)
   have hlen := colsK_len j
   simp [hlt, hw]
   refine xcall_self (by simp) (kcol_c _ (by omega) (by omega) _) ?_
   simp [hw, hlen]
   refine ⟨by omega, by omega, j + 1, by omega, by omega, ?_⟩
   simp [Leq, hh, colsK_succ]
  ·have : j = k := by omega
   subst this
   simp [hh]
theorem kcols_c (n : Int) (h : List (List AV)) : Contract Tryz.prog 194 [.v (.int .i64 n)] h (.sl 7 (enc coC (colsK (heldI n).toNat)) none .no) h [] := by
 refine contract_of k194 mixed (by simp [c194]) fun hh hargs => ?_
 simp [c194]
 refine xcall_self (by simp) (knum_c n _) ?_
 simp [hh]
def rowK (i : Int) : List Cl := [(false, Dg.textL i)]
def rowsK (k : Nat) : List (List Cl) := (List.range k).map fun (j : Nat) => rowK ((j : Int) + 1)
theorem rowsK_succ (j : Nat) : rowsK (j + 1) = rowsK j ++ [rowK ((j : Int) + 1)] := by unfold rowsK; rw [List.range_succ, List.map_append]; rfl
theorem rowsK_len (j : Nat) : (rowsK j).length = j := by unfold rowsK; simp
theorem krow_c (n : Int) (h1 : -9223372036854775808 <= n) (h2 : n <= 9223372036854775807) (h : List (List AV)) : Contract Tryz.prog 196 [.v (.int .i64 n)] h (.sl 2 (enc cellC (rowK n)) none .no) h [] := by
 have hl := dtext_len n h1 h2
 refine contract_of k196 mixed (by simp [c196]) fun hh hargs => ?_
 simp [c196]
 refine xcall_self (by simp) (dtext_c n h1 h2 _) ?_
 simp [hh, rowK, cellC]
 omega
theorem ktag_c (n : Int) (h1 : -9223372036854775808 <= n) (h2 : n <= 9223372036854775807) (h : List (List AV)) : Contract Tryz.prog 138 [.v (.int .i64 n)] h (.v (.string (strB ([83, 69, 76, 69, 67, 84, 32] ++ Dg.textL n)))) h [] := by
 have hl := dtext_len n h1 h2
 refine contract_of k138 mixed (by simp [c138]) fun hh hargs => ?_
 simp [c138]
 refine xcall_self (by simp) (dtext_c n h1 h2 _) ?_
 simp [hh]
 omega
theorem kdesc_c (n : Int) (h : List (List AV)) : Contract Tryz.prog 135 [.v (.int .i64 n)] h (.agg (bkC ⟨84, 0, [], [], [], 0, 0, [], colsK (heldI n).toNat, [], []⟩)) h [] := by
 refine contract_of k135 mixed (by simp [c135]) fun hh hargs => ?_
 simp [c135]
 refine xcall_self (by simp) (kcols_c n _) ?_
 simp [hh, bkC_mk]
theorem knumR_c (n : Int) (h : List (List AV)) : Contract Tryz.prog 195 [.v (.int .i64 n), .fn (.func 196) [] []] h (.sl 1 (enc rowKC (rowsK (heldI n).toNat)) none .no) h [] := by
 obtain ⟨hk0, hk1⟩ := heldI_range n
 have e := heldI_eq n
 obtain ⟨k, hk⟩ : ∃ k : Nat, heldI n = k := ⟨(heldI n).toNat, by omega⟩
 refine contract_of k195 mixed (by simp [c195]) fun hh hargs => ?_
 rw [hk, Int.toNat_natCast]
 rw [hk] at e
 simp [c195, e]
 refine xloop_ok (D := Nat) (fun j => ⟨[(1, .fn (.func 196) [] []), (9, .v (.int .i64 k)), (10, .v (.int .i64 j))], [(5, .sl 1 (enc rowKC (rowsK j)) none (.own (.slot 5)))], h, []⟩) (fun j => j <= k) (fun j => k - j) 0 (by simp) ?_ ?_
 ·simp [Leq, hh, rowsK]
 ·intro j hj
  by_cases hlt : j < k
  ·have hw : IntKind.i64.wrap ((j : Int) + 1) = (j : Int) + 1 := wrap64 (by omega) (by omega)
   have hlen := rowsK_len j
   simp [hlt, hw]
   refine xcall_self (by simp) (krow_c _ (by omega) (by omega) _) ?_
   simp [hw, hlen]
   refine ⟨by omega, by omega, j + 1, by omega, by omega, ?_⟩
   simp [Leq, hh, rowsK_succ, rowKC_mk]
  ·have : j = k := by omega
   subst this
   simp [hh]
theorem krows_c (n : Int) (h : List (List AV)) : Contract Tryz.prog 140 [.v (.int .i64 n)] h (.sl 1 (enc rowKC (rowsK (heldI n).toNat)) none .no) h [] := by
 refine contract_of k140 mixed (by simp [c140]) fun hh hargs => ?_
 simp [c140]
 refine xcall_self (by simp) (knumR_c n _) ?_
 simp [hh]
end Go.Proofs.YtknohkmpficjgaaGreatDoor.Ax
namespace Go.Proofs.YtknohkmpficjgaaGreatDoor.Ax
open Go.RowKit Go By Dg
set_option maxRecDepth 10000
def noC (_ : Unit) : List AV := []
theorem noC_len (v : Unit) : (noC v).length = 0 := rfl
theorem noC_plain (v : Unit) : ∀ c ∈ noC v, c.idOf = none := fun c hc => by cases hc
structure Eg where
 a : Nat
 n : Nat
 clock : Nat
 e : List (KE Unit)
def Eg.cells (T : Eg) : List AV := mapC T.clock (T.e.map (KE.ent noC))
def Eg.no (T : Eg) (k : List UInt8) : Bool := (KE.get k T.e).isSome
theorem Eg.of_cells (T : Eg) : mapOf 0 T.cells = some (T.clock, T.e.map (KE.ent noC)) := KE.ents_of noC_len _ _
theorem Eg.keys (T : Eg) : keysOk none (T.e.map (KE.ent noC)) := KE.ents_keys noC_plain _
theorem Eg.found (T : Eg) (k : List UInt8) : Ax.found false true [] (AEnt.find (.string (strB k)) (T.e.map (KE.ent noC)) 0) = .tup [.agg [], .v (.bool (T.no k))] := by
 rw [KE.found_eq]
 unfold Eg.no
 cases KE.get k T.e <;> rfl
def egC (a : Nat) (n : Nat) : List AV := [.mp a 0 false, .v (.int .i64 (n : Int))]
structure EgAt (h : List (List AV)) (i : Nat) (T : Eg) : Prop where
 top : h[i]? = some (egC T.a T.n)
 ents : h[T.a]? = some T.cells
 apart : i ≠ T.a
section
variable {h : List (List AV)} {i : Nat} {T : Eg}
theorem EgAt.i_lt (ht : EgAt h i T) : i < h.length := (List.getElem?_eq_some_iff.1 ht.top).1
theorem EgAt.a_lt (ht : EgAt h i T) : T.a < h.length := (List.getElem?_eq_some_iff.1 ht.ents).1
theorem EgAt.move (ht : EgAt h i T) {h' : List (List AV)} (h1 : h'[i]? = h[i]?) (h2 : h'[T.a]? = h[T.a]?) : EgAt h' i T := ⟨h1.trans ht.top, h2.trans ht.ents, ht.apart⟩
theorem EgAt.app (ht : EgAt h i T) (xs : List (List AV)) : EgAt (h ++ xs) i T := ht.move (List.getElem?_append_left ht.i_lt) (List.getElem?_append_left ht.a_lt)
theorem made_c (ht : EgAt h i T) : Contract Tryz.prog 139 [.box i 0] h (.v (.bool true)) h [] := by
 have h1 := ht.top
 refine contract_of k139 mixed (by simp [c139]) fun hh hargs => ?_
 simp [c139, h1, egC, hh]
theorem erefuses_c (ht : EgAt h i T) (k : List UInt8) : Contract Tryz.prog 177 [.box i 0, .v (.string (strB k))] h (.v (.bool (T.no k))) h [] := by
 have h1 := ht.top
 have h2 := ht.ents
 have h3 := T.of_cells
 have h4 := T.keys
 have h5 := T.found k
 have hi := ht.i_lt
 have ha := ht.a_lt
 have g1 : ∀ xs, (h ++ xs)[i]? = some (egC T.a T.n) := fun xs => by rw [List.getElem?_append_left hi]; exact h1
 have g2 : ∀ xs, (h ++ xs)[T.a]? = some T.cells := fun xs => by rw [List.getElem?_append_left ha]; exact h2
 refine contract_of k177 mixed (by simp [c177]) fun hh hargs => ?_
 simp [c177, h1, h2, h3, h4, h5, hh, egC, g1, g2]
theorem enext_c (ht : EgAt h i T) (hn : T.n <= 1000000) : Contract Tryz.prog 143 [.box i 0] h (.v (.int .i64 ((T.n + 1 : Nat) : Int))) (h.set i (egC T.a (T.n + 1))) [i] := by
 have h1 := ht.top
 have hi := ht.i_lt
 have ha := ht.a_lt
 have hw : IntKind.i64.wrap ((T.n : Int) + 1) = ((T.n + 1 : Nat) : Int) := wrap64 (by omega) (by omega)
 have key := atomAdd_c (n := (T.n : Int)) (d := 1) (off := 1) h1 rfl
 rw [hw] at key
 have e : (egC T.a T.n).set 1 (.v (.int .i64 ((T.n + 1 : Nat) : Int))) = egC T.a (T.n + 1) := rfl
 rw [e] at key
 refine contract_of k143 mixed (by simp [c143]) fun hh hargs => ?_
 simp [c143]
 refine xcall_self (by simp) (made_c ht) ?_
 simp
 refine xcall_self (by simp) key ?_
 simp [egC, ltLL_set, hh, ha]
end
end Go.Proofs.YtknohkmpficjgaaGreatDoor.Ax
