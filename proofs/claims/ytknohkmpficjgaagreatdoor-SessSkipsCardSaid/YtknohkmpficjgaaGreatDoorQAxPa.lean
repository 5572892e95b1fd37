import Derived.Test.YtknohkmpficjgaaGreatDoorQAxXr
import Derived.Test.YtknohkmpficjgaaGreatDoorRows
import Derived.Test.YtknohkmpficjgaaGreatDoorQAxCy
import Derived.Test.YtknohkmpficjgaaGreatDoorQAxRo
import Derived.Test.YtknohkmpficjgaaGreatDoorQAxIp
set_option linter.unusedSimpArgs false
set_option linter.unusedVariables false
namespace Go.Proofs.YtknohkmpficjgaaGreatDoor.Ax
open Go.RowKit Go By
def c21 : XFun := ⟨4, (.seq (.ops [⟨(some 0), (.assign (.const (.pointer none))), none⟩]) (.seq (.ops [⟨(some 1), (.makeMap 1 true), none⟩, ⟨(some 2), (.build [(.v (.map none))] [(0, (1, (.tmp 1)))]), none⟩, ⟨(some 3), (.box (.tmp 2)), none⟩, ⟨(some 0), (.assign (.tmp 3)), none⟩]) .ret)), [(.move (.tmp 0))]⟩
theorem k21 : cfun Tryz.prog 21 = some c21 := by kernel_rfl
def c87 : XFun := ⟨35, (.seq (.ops [⟨(some 5), (.box (.tmp 2)), none⟩, ⟨(some 6), (.assign (.const (.int .i64 0))), none⟩]) (.seq (.block 0 (.seq (.ops [⟨(some 9), (.move (.tmp 0)), none⟩, ⟨(some 10), (.pnileq false (.tmp 9)), none⟩, ⟨(some 11), (.move (.tmp 10)), none⟩, ⟨(some 12), (.move (.tmp 0)), (some (11, false))⟩, ⟨(some 13), (.nilCheck (.tmp 12)), (some (11, false))⟩, ⟨(some 14), (.faddr 0 (.tmp 13)), (some (11, false))⟩, ⟨(some 15), (.load1 (.tmp 14)), (some (11, false))⟩, ⟨(some 16), (.mnileq false (.tmp 15)), (some (11, false))⟩, ⟨(some 17), (.pick (.tmp 11) (.const (.bool true)) (.tmp 16)), none⟩, ⟨(some 8), (.assign (.tmp 17)), none⟩]) (.cond (.tmp 8) (.seq (.ops [⟨(some 6), (.assign (.const (.int .i64 2))), none⟩]) .ret) (.seq (.ops [⟨(some 19), (.move (.tmp 1)), none⟩, ⟨(some 20), (.bin .neq (.tmp 19) (.const (.string (strB [])))), none⟩, ⟨(some 21), (.move (.tmp 20)), none⟩, ⟨(some 22), (.move (.tmp 0)), (some (21, true))⟩, ⟨(some 23), (.move (.tmp 1)), (some (21, true))⟩, ⟨(some 24), (.call 74 [(.tmp 22), (.tmp 23)]), (some (21, true))⟩, ⟨(some 25), (.pnileq true (.tmp 24)), (some (21, true))⟩, ⟨(some 26), (.pick (.tmp 21) (.tmp 25) (.const (.bool false))), none⟩, ⟨(some 18), (.assign (.tmp 26)), none⟩]) (.cond (.tmp 18) (.seq (.ops [⟨(some 6), (.assign (.const (.int .i64 8))), none⟩]) .ret) .skip))))) (.seq (.ops [⟨(some 27), (.loadN 6 (.tmp 5)), none⟩, ⟨(some 28), (.call 149 [(.tmp 27)]), none⟩, ⟨(some 7), (.alloc [(.v (.string (strB []))), (.sl 0 [] (some true) .exact), (.sl 0 [] (some true) .exact), (.sl 0 [] (some true) .exact), (.v (.bool false)), (.v (.bool false))]), none⟩, ⟨none, (.store 6 (.tmp 7) (.tmp 28)), none⟩]) (.seq (.draws (.take ⟨(some 29), (.move (.tmp 0)), none⟩ (.take ⟨(some 30), (.nilCheck (.tmp 29)), none⟩ (.take ⟨(some 31), (.faddr 0 (.tmp 30)), none⟩ (.take ⟨(some 32), (.load1 (.tmp 31)), none⟩ (.take ⟨(some 33), (.move (.tmp 1)), none⟩ (.only ⟨(some 34), (.call 83 [(.tmp 33)]), none⟩ (.last ⟨none, (.mapUpd none 1 true (.tmp 32) (.tmp 34) (.tmp 7)), none⟩)))))))) (.seq (.ops [⟨(some 6), (.assign (.const (.int .i64 0))), none⟩]) .ret))))), [(.move (.tmp 6))]⟩
theorem k87 : cfun Tryz.prog 87 = some c87 := by kernel_rfl
def c151 : XFun := ⟨17, (.seq (.ops [⟨(some 4), (.alloc [(.v (.string (strB []))), (.sl 0 [] (some true) .exact), (.sl 0 [] (some true) .exact), (.sl 0 [] (some true) .exact), (.v (.bool false)), (.v (.bool false))]), none⟩, ⟨(some 5), (.assign (.const (.bool false))), none⟩]) (.seq (.ops [⟨(some 7), (.move (.tmp 0)), none⟩, ⟨(some 8), (.move (.tmp 1)), none⟩, ⟨(some 9), (.call 74 [(.tmp 7), (.tmp 8)]), none⟩, ⟨(some 6), (.assign (.tmp 9)), none⟩]) (.seq (.seq (.ops [⟨(some 10), (.move (.tmp 6)), none⟩, ⟨(some 11), (.pnileq false (.tmp 10)), none⟩]) (.cond (.tmp 11) (.seq (.ops [⟨(some 12), (.build [(.v (.string (strB []))), (.sl 0 [] (some true) .exact), (.sl 0 [] (some true) .exact), (.sl 0 [] (some true) .exact), (.v (.bool false)), (.v (.bool false))] []), none⟩, ⟨none, (.store 6 (.tmp 4) (.tmp 12)), none⟩, ⟨(some 5), (.assign (.const (.bool false))), none⟩]) .ret) .skip)) (.seq (.ops [⟨(some 13), (.move (.tmp 6)), none⟩, ⟨(some 14), (.nilCheck (.tmp 13)), none⟩, ⟨(some 15), (.loadN 6 (.tmp 14)), none⟩, ⟨(some 16), (.call 149 [(.tmp 15)]), none⟩, ⟨none, (.store 6 (.tmp 4) (.tmp 16)), none⟩, ⟨(some 5), (.assign (.const (.bool true))), none⟩]) .ret)))), [(.loadN 6 (.tmp 4)), (.move (.tmp 5))]⟩
theorem k151 : cfun Tryz.prog 151 = some c151 := by kernel_rfl
def c91 : XFun := ⟨27, (.seq (.ops [⟨(some 6), (.assign (.const (.bool false))), none⟩]) (.seq (.ops [⟨(some 8), (.move (.tmp 0)), none⟩, ⟨(some 9), (.move (.tmp 1)), none⟩, ⟨(some 10), (.call 74 [(.tmp 8), (.tmp 9)]), none⟩, ⟨(some 7), (.assign (.tmp 10)), none⟩]) (.seq (.seq (.ops [⟨(some 11), (.move (.tmp 7)), none⟩, ⟨(some 12), (.pnileq false (.tmp 11)), none⟩, ⟨(some 13), (.move (.tmp 12)), none⟩, ⟨(some 14), (.move (.tmp 7)), (some (13, false))⟩, ⟨(some 15), (.nilCheck (.tmp 14)), (some (13, false))⟩, ⟨(some 16), (.faddr 4 (.tmp 15)), (some (13, false))⟩, ⟨(some 17), (.load1 (.tmp 16)), (some (13, false))⟩, ⟨(some 18), (.pick (.tmp 13) (.const (.bool true)) (.tmp 17)), none⟩]) (.cond (.tmp 18) (.seq (.ops [⟨(some 6), (.assign (.const (.bool false))), none⟩]) .ret) .skip)) (.seq (.ops [⟨(some 19), (.move (.tmp 7)), none⟩, ⟨(some 20), (.move (.tmp 7)), none⟩, ⟨(some 21), (.move (.tmp 2)), none⟩, ⟨(some 22), (.call 153 [(.tmp 21)]), none⟩, ⟨(some 23), (.nilCheck (.tmp 19)), none⟩, ⟨(some 24), (.faddr 4 (.tmp 23)), none⟩, ⟨none, (.store 1 (.tmp 24) (.const (.bool true))), none⟩, ⟨(some 25), (.nilCheck (.tmp 20)), none⟩, ⟨(some 26), (.faddr 3 (.tmp 25)), none⟩, ⟨none, (.store 1 (.tmp 26) (.tmp 22)), none⟩]) (.seq (.ops [⟨(some 6), (.assign (.const (.bool true))), none⟩]) .ret))))), [(.move (.tmp 6))]⟩
theorem k91 : cfun Tryz.prog 91 = some c91 := by kernel_rfl
def c92 : XFun := ⟨59, (.seq (.ops [⟨(some 6), (.assign (.const (.slice none 0 0))), none⟩, ⟨(some 7), (.assign (.const (.bool false))), none⟩]) (.seq (.ops [⟨(some 10), (.move (.tmp 0)), none⟩, ⟨(some 11), (.move (.tmp 1)), none⟩, ⟨(some 12), (.call 74 [(.tmp 10), (.tmp 11)]), none⟩, ⟨(some 8), (.assign (.tmp 12)), none⟩]) (.seq (.seq (.ops [⟨(some 13), (.move (.tmp 8)), none⟩, ⟨(some 14), (.pnileq false (.tmp 13)), none⟩, ⟨(some 15), (.move (.tmp 14)), none⟩, ⟨(some 16), (.move (.tmp 8)), (some (15, false))⟩, ⟨(some 17), (.nilCheck (.tmp 16)), (some (15, false))⟩, ⟨(some 18), (.faddr 4 (.tmp 17)), (some (15, false))⟩, ⟨(some 19), (.load1 (.tmp 18)), (some (15, false))⟩, ⟨(some 20), (.un .not (.tmp 19)), (some (15, false))⟩, ⟨(some 21), (.pick (.tmp 15) (.const (.bool true)) (.tmp 20)), none⟩, ⟨(some 22), (.move (.tmp 21)), none⟩, ⟨(some 23), (.move (.tmp 8)), (some (22, false))⟩, ⟨(some 24), (.nilCheck (.tmp 23)), (some (22, false))⟩, ⟨(some 25), (.faddr 5 (.tmp 24)), (some (22, false))⟩, ⟨(some 26), (.load1 (.tmp 25)), (some (22, false))⟩, ⟨(some 27), (.pick (.tmp 22) (.const (.bool true)) (.tmp 26)), none⟩]) (.cond (.tmp 27) (.seq (.ops [⟨(some 6), (.assign (.const (.slice none 0 0))), none⟩, ⟨(some 7), (.assign (.const (.bool false))), none⟩]) .ret) .skip)) (.seq (.seq (.ops [⟨(some 28), (.move (.tmp 2)), none⟩, ⟨(some 29), (.bin .lss (.tmp 28) (.const (.int .i64 1))), none⟩]) (.cond (.tmp 29) (.ops [⟨(some 30), (.move (.tmp 8)), none⟩, ⟨(some 31), (.nilCheck (.tmp 30)), none⟩, ⟨(some 32), (.faddr 3 (.tmp 31)), none⟩, ⟨(some 33), (.load1 (.tmp 32)), none⟩, ⟨(some 34), (.lenL (.tmp 33)), none⟩, ⟨(some 2), (.assign (.tmp 34)), none⟩]) .skip)) (.seq (.ops [⟨(some 35), (.move (.tmp 8)), none⟩, ⟨(some 36), (.move (.tmp 2)), none⟩, ⟨(some 37), (.move (.tmp 8)), none⟩, ⟨(some 38), (.nilCheck (.tmp 37)), none⟩, ⟨(some 39), (.faddr 3 (.tmp 38)), none⟩, ⟨(some 40), (.load1 (.tmp 39)), none⟩, ⟨(some 41), (.lenL (.tmp 40)), none⟩, ⟨(some 42), (.minI [(.tmp 36), (.tmp 41)]), none⟩, ⟨(some 43), (.call 154 [(.tmp 35), (.tmp 42)]), none⟩, ⟨(some 9), (.assign (.tmp 43)), none⟩]) (.seq (.ops [⟨(some 44), (.move (.tmp 8)), none⟩, ⟨(some 45), (.move (.tmp 8)), none⟩, ⟨(some 46), (.nilCheck (.tmp 45)), none⟩, ⟨(some 47), (.faddr 3 (.tmp 46)), none⟩, ⟨(some 48), (.load1 (.tmp 47)), none⟩, ⟨(some 49), (.lenL (.tmp 48)), none⟩, ⟨(some 50), (.bin .eql (.tmp 49) (.const (.int .i64 0))), none⟩, ⟨(some 51), (.nilCheck (.tmp 44)), none⟩, ⟨(some 52), (.faddr 5 (.tmp 51)), none⟩, ⟨none, (.store 1 (.tmp 52) (.tmp 50)), none⟩]) (.seq (.draws (.take ⟨(some 53), (.move (.tmp 9)), none⟩ (.take ⟨(some 54), (.move (.tmp 8)), none⟩ (.take ⟨(some 55), (.nilCheck (.tmp 54)), none⟩ (.take ⟨(some 56), (.faddr 5 (.tmp 55)), none⟩ (.take ⟨(some 57), (.load1 (.tmp 56)), none⟩ (.take ⟨(some 58), (.un .not (.tmp 57)), none⟩ (.take ⟨(some 6), (.assign (.tmp 53)), none⟩ (.take ⟨(some 7), (.assign (.tmp 58)), none⟩ .done))))))))) .ret))))))), [(.move (.tmp 6)), (.move (.tmp 7))]⟩
theorem k92 : cfun Tryz.prog 92 = some c92 := by kernel_rfl
def c41 : XFun := ⟨14, (.seq (.ops [⟨(some 4), (.assign (.const (.bool false))), none⟩]) (.seq (.seq (.ops [⟨(some 5), (.move (.tmp 0)), none⟩, ⟨(some 6), (.move (.tmp 1)), none⟩, ⟨(some 7), (.call 74 [(.tmp 5), (.tmp 6)]), none⟩, ⟨(some 8), (.pnileq false (.tmp 7)), none⟩]) (.cond (.tmp 8) (.seq (.ops [⟨(some 4), (.assign (.const (.bool false))), none⟩]) .ret) .skip)) (.seq (.ops [⟨(some 9), (.move (.tmp 0)), none⟩, ⟨(some 10), (.nilCheck (.tmp 9)), none⟩, ⟨(some 11), (.faddr 0 (.tmp 10)), none⟩, ⟨(some 12), (.load1 (.tmp 11)), none⟩, ⟨(some 13), (.move (.tmp 1)), none⟩, ⟨none, (.mapDel none 1 true (.tmp 12) (.tmp 13)), none⟩]) (.seq (.ops [⟨(some 4), (.assign (.const (.bool true))), none⟩]) .ret)))), [(.move (.tmp 4))]⟩
theorem k41 : cfun Tryz.prog 41 = some c41 := by kernel_rfl
def c40 : XFun := ⟨8, (.seq (.ops [⟨(some 2), (.move (.tmp 0)), none⟩, ⟨(some 3), (.pnileq true (.tmp 2)), none⟩]) (.cond (.tmp 3) (.ops [⟨(some 4), (.move (.tmp 0)), none⟩, ⟨(some 5), (.nilCheck (.tmp 4)), none⟩, ⟨(some 6), (.faddr 0 (.tmp 5)), none⟩, ⟨(some 7), (.load1 (.tmp 6)), none⟩, ⟨none, (.clearM 1 true (.tmp 7)), none⟩]) .skip)), []⟩
theorem k40 : cfun Tryz.prog 40 = some c40 := by kernel_rfl
def c74 : XFun := ⟨13, (.seq (.ops [⟨(some 4), (.assign (.const (.pointer none))), none⟩]) (.seq (.seq (.ops [⟨(some 5), (.move (.tmp 0)), none⟩, ⟨(some 6), (.pnileq false (.tmp 5)), none⟩]) (.cond (.tmp 6) (.seq (.ops [⟨(some 4), (.assign (.const (.pointer none))), none⟩]) .ret) .skip)) (.seq (.ops [⟨(some 7), (.move (.tmp 0)), none⟩, ⟨(some 8), (.nilCheck (.tmp 7)), none⟩, ⟨(some 9), (.faddr 0 (.tmp 8)), none⟩, ⟨(some 10), (.load1 (.tmp 9)), none⟩, ⟨(some 11), (.move (.tmp 1)), none⟩, ⟨(some 12), (.lookup none 1 true false [(.v (.pointer none))] (.tmp 10) (.tmp 11)), none⟩, ⟨(some 4), (.assign (.tmp 12)), none⟩]) .ret))), [(.move (.tmp 4))]⟩
theorem k74 : cfun Tryz.prog 74 = some c74 := by kernel_rfl
def c154 : XFun := ⟨29, (.seq (.ops [⟨(some 4), (.assign (.const (.slice none 0 0))), none⟩]) (.seq (.ops [⟨(some 6), (.move (.tmp 0)), none⟩, ⟨(some 7), (.nilCheck (.tmp 6)), none⟩, ⟨(some 8), (.faddr 3 (.tmp 7)), none⟩, ⟨(some 9), (.load1 (.tmp 8)), none⟩, ⟨(some 10), (.move (.tmp 1)), none⟩, ⟨(some 11), (.slice 1 (.tmp 9) none (some (.tmp 10)) none), none⟩, ⟨(some 12), (.call 201 [(.tmp 11)]), none⟩, ⟨(some 5), (.assign (.tmp 12)), none⟩]) (.seq (.ops [⟨(some 13), (.move (.tmp 0)), none⟩, ⟨(some 14), (.nilCheck (.tmp 13)), none⟩, ⟨(some 15), (.faddr 3 (.tmp 14)), none⟩, ⟨(some 16), (.load1 (.tmp 15)), none⟩, ⟨(some 17), (.move (.tmp 1)), none⟩, ⟨(some 18), (.slice 1 (.tmp 16) none (some (.tmp 17)) none), none⟩, ⟨none, (.clearS (.slice none 0 0) (.tmp 18)), none⟩]) (.seq (.ops [⟨(some 19), (.move (.tmp 0)), none⟩, ⟨(some 20), (.move (.tmp 0)), none⟩, ⟨(some 21), (.nilCheck (.tmp 20)), none⟩, ⟨(some 22), (.faddr 3 (.tmp 21)), none⟩, ⟨(some 23), (.load1 (.tmp 22)), none⟩, ⟨(some 24), (.move (.tmp 1)), none⟩, ⟨(some 25), (.slice 1 (.tmp 23) (some (.tmp 24)) none none), none⟩, ⟨(some 26), (.nilCheck (.tmp 19)), none⟩, ⟨(some 27), (.faddr 3 (.tmp 26)), none⟩, ⟨none, (.store 1 (.tmp 27) (.tmp 25)), none⟩]) (.seq (.ops [⟨(some 28), (.move (.tmp 5)), none⟩, ⟨(some 4), (.assign (.tmp 28)), none⟩]) .ret))))), [(.move (.tmp 4))]⟩
theorem k154 : cfun Tryz.prog 154 = some c154 := by kernel_rfl
def c149 : XFun := ⟨22, (.seq (.ops [⟨(some 1), (.box (.tmp 0)), none⟩, ⟨(some 2), (.alloc [(.v (.string (strB []))), (.sl 0 [] (some true) .exact), (.sl 0 [] (some true) .exact), (.sl 0 [] (some true) .exact), (.v (.bool false)), (.v (.bool false))]), none⟩]) (.seq (.draws (.take ⟨(some 3), (.faddr 0 (.tmp 1)), none⟩ (.take ⟨(some 4), (.faddr 0 (.tmp 3)), none⟩ (.take ⟨(some 5), (.load1 (.tmp 4)), none⟩ (.take ⟨(some 7), (.faddr 0 (.tmp 1)), none⟩ (.take ⟨(some 8), (.faddr 1 (.tmp 7)), none⟩ (.take ⟨(some 9), (.load1 (.tmp 8)), none⟩ (.only ⟨(some 6), (.call 83 [(.tmp 5)]), none⟩ (.only ⟨(some 10), (.call 84 [(.tmp 9)]), none⟩ (.take ⟨(some 11), (.build [(.v (.string (strB []))), (.sl 0 [] (some true) .exact)] [(0, (1, (.tmp 6))), (1, (1, (.tmp 10)))]), none⟩ (.take ⟨(some 12), (.faddr 0 (.tmp 1)), none⟩ (.last ⟨none, (.store 2 (.tmp 12) (.tmp 11)), none⟩)))))))))))) (.seq (.ops [⟨(some 13), (.faddr 2 (.tmp 1)), none⟩, ⟨(some 14), (.load1 (.tmp 13)), none⟩, ⟨(some 15), (.call 141 [(.tmp 14)]), none⟩, ⟨(some 16), (.faddr 2 (.tmp 1)), none⟩, ⟨none, (.store 1 (.tmp 16) (.tmp 15)), none⟩]) (.seq (.ops [⟨(some 17), (.faddr 3 (.tmp 1)), none⟩, ⟨(some 18), (.load1 (.tmp 17)), none⟩, ⟨(some 19), (.call 153 [(.tmp 18)]), none⟩, ⟨(some 20), (.faddr 3 (.tmp 1)), none⟩, ⟨none, (.store 1 (.tmp 20) (.tmp 19)), none⟩]) (.seq (.ops [⟨(some 21), (.loadN 6 (.tmp 1)), none⟩, ⟨none, (.store 6 (.tmp 2) (.tmp 21)), none⟩]) .ret))))), [(.loadN 6 (.tmp 2))]⟩
theorem k149 : cfun Tryz.prog 149 = some c149 := by kernel_rfl
def c153 : XFun := ⟨22, (.seq (.ops [⟨(some 2), (.assign (.const (.slice none 0 0))), none⟩]) (.seq (.ops [⟨(some 6), (.move (.tmp 0)), none⟩, ⟨(some 7), (.call 201 [(.tmp 6)]), none⟩, ⟨(some 3), (.assign (.tmp 7)), none⟩]) (.seq (.seq (.ops [⟨(some 8), (.move (.tmp 3)), none⟩, ⟨(some 9), (.lenL (.tmp 8)), none⟩, ⟨(some 10), (.move (.const (.int .i64 0))), none⟩]) (.block 0 (.loop (.seq (.ops [⟨(some 11), (.bin .lss (.tmp 10) (.tmp 9)), none⟩]) (.seq (.cond (.tmp 11) .skip (.exit 0)) (.seq (.block 1 (.seq (.ops [⟨(some 12), (.move (.tmp 10)), none⟩, ⟨(some 13), (.iaddr 1 (.tmp 8) (.tmp 10)), none⟩, ⟨(some 14), (.load1 (.tmp 13)), none⟩, ⟨(some 4), (.assign (.tmp 12)), none⟩, ⟨(some 5), (.assign (.tmp 14)), none⟩]) (.ops [⟨(some 15), (.move (.tmp 3)), none⟩, ⟨(some 16), (.move (.tmp 4)), none⟩, ⟨(some 17), (.move (.tmp 5)), none⟩, ⟨(some 18), (.call 141 [(.tmp 17)]), none⟩, ⟨(some 19), (.iaddr 1 (.tmp 15) (.tmp 16)), none⟩, ⟨none, (.store 1 (.tmp 19) (.tmp 18)), none⟩]))) (.ops [⟨(some 20), (.bin .add (.tmp 10) (.const (.int .i64 1))), none⟩, ⟨(some 10), (.move (.tmp 20)), none⟩]))))))) (.seq (.ops [⟨(some 21), (.move (.tmp 3)), none⟩, ⟨(some 2), (.assign (.tmp 21)), none⟩]) .ret)))), [(.move (.tmp 2))]⟩
theorem k153 : cfun Tryz.prog 153 = some c153 := by kernel_rfl
end Go.Proofs.YtknohkmpficjgaaGreatDoor.Ax
namespace Go.Proofs.YtknohkmpficjgaaGreatDoor.Ax
set_option maxRecDepth 100000
open Go.RowKit Go By YtknohkmpficjgaaGreatDoor.Nm Sc Dg
set_option maxRecDepth 10000
def rowA (r : List Cl) : AV := .sl 2 (enc cellC r) none .no
theorem rowA_mk (r : List Cl) : rowA r = .sl 2 (enc cellC r) none .no := rfl
theorem rowA_lt (n : Nat) (r : List Cl) : (rowA r).lt n := by simp [rowA]
theorem rows_flat : ∀ L : List (List Cl), (enc rowKC L).flatten = L.map rowA
 | [] => rfl
 | x :: L => by rw [enc_cons, List.flatten_cons, rows_flat L]; rfl
theorem rowsL_lt (n : Nat) (L : List (List Cl)) : ltL n (L.map rowA) := ltL_of fun j c hj => by
 obtain ⟨r, _, rfl⟩ := List.mem_map.1 (List.mem_of_getElem? hj)
 exact rowA_lt n r
theorem rowsL_id (L : List (List Cl)) : ∀ c ∈ L.map rowA, c.idOf = none := fun c hc => by
 obtain ⟨r, _, rfl⟩ := List.mem_map.1 hc
 rfl
theorem flat_bsl {G : Ghost} {w : World} {h : List (List AV)} (hW : WorldOk G w) (hS : SeesH G h) {i off n : Nat} {cs : List AV} (hcs : h[i]? = some cs) (hfit : off + n <= cs.length) {x : Value} (hx : Sees G (.bsl i off 1 n) x) (hn : 0 < n) :
  ∃ (b o cap : Nat) (us : List Value), x = .slice (some ⟨b, o, none⟩) n cap /\ b < w.heap.size /\ us.length = n * 1 /\ (∀ x ∈ us, x.oneCell' = true) /\ (∀ (j : Nat) (u : Value), us[j]? = some u -> w.cell? ⟨b, o + j, none⟩ = some u) /\ ∀ (j : Nat) (c : AV), ((cs.drop off).take n)[j]? = some c -> Sees G c (us.getD j undef) := by
 cases hx with
 | bsl _ _ _ _ b cap hb hcap hm o ho =>
  have hbl : i < G.boxv.length := by rw [<- hS.1]; exact (List.getElem?_eq_some_iff.1 hcs).1
  obtain ⟨vs, hvs⟩ : ∃ vs, G.boxv[i]? = some vs := ⟨_, List.getElem?_eq_getElem hbl⟩
  obtain ⟨q1, q2, q3⟩ := hS.2 i cs vs hcs hvs
  obtain ⟨b1, b2, b3, b4⟩ := hW.box i b vs hb.1 hvs
  have ho2 : o = G.base i + off := by omega
  subst ho2
  refine ⟨b, G.base i + off, cap, (vs.drop off).take n, rfl, b2, by rw [List.length_take, List.length_drop]; omega, fun x hx => q2 x (List.mem_of_mem_drop (List.mem_of_mem_take hx)), fun j u hu => ?_, fun j c hj => ?_⟩
  ·rw [List.getElem?_take] at hu
   split at hu
   ·rw [List.getElem?_drop] at hu
    rw [Nat.add_assoc]
    exact (b4 (off + j) u hu hb.2).1
   ·cases hu
  ·rw [List.getElem?_take] at hj
   split at hj
   ·rename_i hjn
    rw [List.getElem?_drop] at hj
    rw [List.getD_eq_getElem?_getD, List.getElem?_take, if_pos hjn, List.getElem?_drop, <- List.getD_eq_getElem?_getD]
    exact q3 _ c hj
   ·cases hj
theorem row_info : (Tryz.prog.info? 30).map (fun i => (i.zero, i.size, i.bytes)) = some (some (.slice none 0 0), 1, 24) := by kernel_rfl
theorem clone_row_any (b o n c : Nat) (us : List Value) (w : World) (hl : us.length = n * 1) (hc : ∀ (j : Nat) (u : Value), us[j]? = some u -> w.cell? ⟨b, o + j, none⟩ = some u) (hb : b < w.heap.size) (h1 : ∀ u ∈ us, u.oneCell' = true) (hn : n <= 4398046511104) :
  Calls Tryz.prog 201 #[.slice (some ⟨b, o, none⟩) n c] w fun e w' => ∃ v, e = .returned v /\ w'.ownsRow w.heap.size 30 1 v n us /\ Below w.heap.size w w' := by
 obtain ⟨i0, hi, hz0, hz1, hz2⟩ := info_of3 row_info
 have heq := fun W : World => Lib.run_eql_slice_nil (P := Tryz.prog) W 133 30 (some ⟨b, o, none⟩) n c 0 0 Tryz.underlying133
 have HX0 : ∀ (j : Nat) (u : Value), us[j]? = some u -> (w.alloc (.cells #[] 30)).cell? ((⟨b, o, none⟩ : Addr).add j) = some u := fun j u hu => by
  rw [add_plain, (cell_alloc w _ (o + j) hb).1]; exact hc j u hu
 have HX := Lib.hid HX0
 have HL := Lib.hid hl
 have H1 := Lib.hid h1
 clear HX0 hc hl h1
 go_enter Tryz.func201, Tryz.ntmps201
 go_wp2_with (at_builtin; refine wpList_append_own_at (w := w.alloc (.cells #[] 30)) rfl _ _ 133 rfl w.heap.size 30 i0 (.slice none 0 0) 1 24 Tryz.underlying133 hi hz0 hz1 hz2 rfl (by omega) _ 0 [] rfl ?c1 ⟨b, o, none⟩ n c us rfl HL.out HX.out H1.out ?c4 ?c5 ?c6 ?c7)
 case c1 => exact World.ownsRow_made w #[] 0 (Nat.le_refl _) (by simp [maxLen]) (by simp)
 case c4 => unfold maxLen; omega
 case c5 => omega
 case c6 => simp
 case c7 =>
  intro v' w' hown hg
  intros
  have HO := Lib.hid hown
  clear hown
  go_wp2
  go_ret
  refine ⟨v', rfl, by simpa using HO.out, ((Below.refl _ _).alloc (Nat.le_refl _) _).grown hg (by simp) (by simp [Value.ownBlock])⟩
theorem clone_row_empty (ad : Addr) (c : Nat) (w : World) :
  Calls Tryz.prog 201 #[.slice (some ad) 0 c] w fun e w' => ∃ v, e = .returned v /\ w'.ownsRow w.heap.size 30 1 v 0 [] /\ Below w.heap.size w w' := by
 obtain ⟨i0, hi, hz0, hz1, hz2⟩ := info_of3 row_info
 have heq := fun W : World => Lib.run_eql_slice_nil (P := Tryz.prog) W 133 30 (some ad) 0 c 0 0 Tryz.underlying133
 go_enter Tryz.func201, Tryz.ntmps201
 go_wp2_with (at_builtin; refine wpList_append_own_at (w := w.alloc (.cells #[] 30)) rfl _ _ 133 rfl w.heap.size 30 i0 (.slice none 0 0) 1 24 Tryz.underlying133 hi hz0 hz1 hz2 rfl (by omega) _ 0 [] rfl ?c1 ad 0 c [] rfl (by simp) (by simp) (by simp) ?c4 ?c5 ?c6 ?c7)
 case c1 => exact World.ownsRow_made w #[] 0 (Nat.le_refl _) (by simp [maxLen]) (by simp)
 case c4 => unfold maxLen; omega
 case c5 => omega
 case c6 => simp
 case c7 =>
  intro v' w' hown hg
  intros
  have HO := Lib.hid hown
  clear hown
  go_wp2
  go_ret
  refine ⟨v', rfl, by simpa using HO.out, ((Below.refl _ _).alloc (Nat.le_refl _) _).grown hg (by simp) (by simp [Value.ownBlock])⟩
theorem clone_row_nil (w : World) (c : Nat) : Calls Tryz.prog 201 #[.slice none 0 c] w fun e w' => e = .returned (.slice none 0 0) /\ w = w' := by
 have heq := fun W : World => Lib.run_eql_slice_nil (P := Tryz.prog) W 133 30 none 0 c 0 0 Tryz.underlying133
 go_enter Tryz.func201, Tryz.ntmps201
 go_wp2
 go_ret
 exact ⟨rfl, rfl⟩
theorem clone_row0_c (h : List (List AV)) : Contract Tryz.prog 201 [.sl 1 [] none .no] h (.sl 1 [] none .no) h [] := by
 refine contract_blank (by kernel_rfl) rfl fun G w vs hW hvs => ?_
 obtain ⟨x, rfl, hx⟩ := hvs.one
 cases hx with
 | sl _ _ _ _ a len cap u hlen hn hk hcap hm =>
  have hl0 : len = 0 := hlen
  subst hl0
  have empty : ∀ (G : Ghost) (a : Option Addr) (cap : Nat), (a = none -> cap = 0) -> cap <= maxLen -> Sees G (.sl 1 [] none .no) (.slice a 0 cap) := fun G a cap h1 h2 =>
   .sl 1 [] none .no a 0 cap (fun _ _ => undef) rfl ⟨fun h => ⟨h1 h, rfl⟩, fun h => (by cases h), fun h => (by cases h)⟩ (fun e h => by cases h) (Nat.zero_le _) h2 (fun h => by cases h) (fun h => by simp at h) (fun i e h => by simp at h) (fun i j h => by simp at h)
  cases a with
  | none =>
   refine (clone_row_nil w cap).mono fun e w' he => ?_
   obtain ⟨rfl, rfl⟩ := he
   exact ⟨_, rfl, empty G none 0 (fun _ => rfl) (Nat.zero_le _), Below.refl _ _⟩
  | some ad =>
   refine (clone_row_empty ad cap w).mono fun e w' he => ?_
   obtain ⟨v, rfl, ⟨_, hown⟩, hb⟩ := he
   rcases hown with ⟨rfl, _⟩ | ⟨g, cap2, cur, rfl, hg, hrow, hcap2, hmax, hcs, htake⟩
   ·exact ⟨_, rfl, empty G none 0 (fun _ => rfl) (Nat.zero_le _), hb⟩
   ·exact ⟨_, rfl, empty G _ cap2 (fun h => by cases h) hmax, hb⟩
def RowsX (h : List (List AV)) (x : AV) (L : List (List Cl)) : Prop :=
 x = .sl 1 (enc rowKC L) none .no \/ ∃ b o cs, x = .bsl b o 1 L.length /\ h[b]? = some cs /\ (cs.drop o).take L.length = L.map rowA /\ o + L.length <= cs.length
theorem RowsX.bsl {h : List (List AV)} {b o : Nat} {cs : List AV} {L : List (List Cl)} (hb : h[b]? = some cs) (hd : (cs.drop o).take L.length = L.map rowA) (ho : o + L.length <= cs.length) : RowsX h (.bsl b o 1 L.length) L := .inr ⟨b, o, cs, rfl, hb, hd, ho⟩
theorem RowsX.id {h : List (List AV)} {x : AV} {L : List (List Cl)} (hx : RowsX h x L) : x.idOf = none := by
 rcases hx with rfl | ⟨b, o, cs, rfl, _⟩ <;> rfl
theorem RowsX.unown {h : List (List AV)} {x : AV} {L : List (List Cl)} (hx : RowsX h x L) : x.unown = x := by
 rcases hx with rfl | ⟨b, o, cs, rfl, _⟩ <;> rfl
theorem RowsX.cells {h : List (List AV)} {x : AV} {L : List (List Cl)} (hx : RowsX h x L) : x.cells = some [x] := by
 rcases hx with rfl | ⟨b, o, cs, rfl, _⟩ <;> rfl
theorem RowsX.lt {h : List (List AV)} {x : AV} {L : List (List Cl)} (hx : RowsX h x L) : x.lt h.length := by
 rcases hx with rfl | ⟨b, o, cs, rfl, hb, _⟩
 ·simp only [r_lt_sl]
  exact ltLL_enc (f := rowKC) _ (fun a => by simp [rowKC]) L
 ·exact (List.getElem?_eq_some_iff.1 hb).1
theorem RowsX.app {h : List (List AV)} {x : AV} {L : List (List Cl)} (hx : RowsX h x L) (xs : List (List AV)) : RowsX (h ++ xs) x L := by
 rcases hx with rfl | ⟨b, o, cs, rfl, hb, h2, h3⟩
 ·exact .inl rfl
 ·exact .inr ⟨b, o, cs, rfl, by rw [List.getElem?_append_left (List.getElem?_eq_some_iff.1 hb).1]; exact hb, h2, h3⟩
theorem clone_row_x {h : List (List AV)} {x : AV} {L : List (List Cl)} (hx : RowsX h x L) (hne : L ≠ []) (hl : L.length <= 4398046511104) : Contract Tryz.prog 201 [x] h (.bsl h.length 0 1 L.length) (h ++ [L.map rowA]) [] := by
 refine contract_newboxH (by kernel_rfl) (rowsL_id L) fun G w vs hW hS hvs => ?_
 obtain ⟨v, rfl, hv⟩ := hvs.one
 have key : ∃ (b o cap : Nat) (us : List Value), v = .slice (some ⟨b, o, none⟩) L.length cap /\ b < w.heap.size /\ us.length = L.length * 1 /\ (∀ x ∈ us, x.oneCell' = true) /\ (∀ (j : Nat) (u : Value), us[j]? = some u -> w.cell? ⟨b, o + j, none⟩ = some u) /\ ∀ (j : Nat) (c : AV), (L.map rowA)[j]? = some c -> Sees G c (us.getD j undef) := by
  rcases hx with rfl | ⟨b, o, cs, rfl, hb, hd, ho⟩
  ·obtain ⟨b, o, cap, us, rfl, h1, h2, h3, h4, h5, h6⟩ := flat_sees (by omega) hv (by simpa [enc] using hne) hW
   have hlen : (enc rowKC L).length = L.length := by simp
   rw [hlen] at h2 h3 ⊢
   rw [rows_flat] at h6
   exact ⟨b, o, cap, us, rfl, h1, h2, h4, h5, h6⟩
  ·obtain ⟨b', o', cap, us, e, h1, h2, h4, h5, h6⟩ := flat_bsl hW hS hb ho hv (List.length_pos_iff.2 hne)
   rw [hd] at h6
   exact ⟨b', o', cap, us, e, h1, h2, h4, h5, h6⟩
 obtain ⟨b, o, cap, us, rfl, h1, h2, h4, h5, h6⟩ := key
 refine (clone_row_any b o L.length cap us w h2 h5 h1 h4 hl).mono fun e w' he => ?_
 obtain ⟨v, rfl, ⟨_, hown⟩, hb⟩ := he
 rcases hown with ⟨_, hn⟩ | ⟨g, cap2, cur, rfl, hg, hrow, hcap, hmax, hcs, htake⟩
 ·exact absurd (List.eq_nil_of_length_eq_zero hn) hne
 ·refine ⟨g, cap2, us, rfl, hg, (Array.getElem?_eq_some_iff.1 hrow).1, hcap, ⟨hmax, fun j hj => ⟨by rw [cell_of_row _ _ j cur _ (0, 0) hrow, Array.getElem?_eq_getElem (by omega)]; rfl, by simp [World.frozen?, hrow]⟩⟩, by rw [h2]; simp, h4, h6, fun j x hj => ?_, hb⟩
  rw [<- htake, List.getElem?_take] at hj
  split at hj
  ·refine ⟨by rw [cell_of_row _ _ j cur _ (0, 0) hrow, <- Array.getElem?_toList]; exact hj, ?_⟩
   simp [World.frozen?, hrow]
  ·cases hj
theorem clone_row_e {h : List (List AV)} {x : AV} (hx : RowsX h x []) : Contract Tryz.prog 201 [x] h (.sl 1 [] none .no) h [] := by
 rcases hx with rfl | ⟨b, o, cs, rfl, hb, hd, ho⟩
 ·exact clone_row0_c h
 ·refine contract_blank (by kernel_rfl) rfl fun G w vs hW hvs => ?_
  obtain ⟨x, rfl, hx⟩ := hvs.one
  cases hx with
  | bsl _ _ _ _ bb cap hbb hcap hm o2 ho2 =>
   refine (clone_row_empty ⟨bb, o2, none⟩ cap w).mono fun e w' he => ?_
   obtain ⟨v, rfl, ⟨_, hown⟩, hb2⟩ := he
   have empty : ∀ (G : Ghost) (a : Option Addr) (cap : Nat), (a = none -> cap = 0) -> cap <= maxLen -> Sees G (.sl 1 [] none .no) (.slice a 0 cap) := fun G a cap h1 h2 =>
    .sl 1 [] none .no a 0 cap (fun _ _ => undef) rfl ⟨fun h => ⟨h1 h, rfl⟩, fun h => (by cases h), fun h => (by cases h)⟩ (fun e h => by cases h) (Nat.zero_le _) h2 (fun h => by cases h) (fun h => by simp at h) (fun i e h => by simp at h) (fun i j h => by simp at h)
   rcases hown with ⟨rfl, _⟩ | ⟨g, cap2, cur, rfl, hg, hrow, hcap2, hmax, hcs, htake⟩
   ·exact ⟨_, rfl, empty G none 0 (fun _ => rfl) (Nat.zero_le _), hb2⟩
   ·exact ⟨_, rfl, empty G _ cap2 (fun h => by cases h) hmax, hb2⟩
def RowsFit (L : List (List Cl)) : Prop := L.length <= 1000000 /\ ∀ r ∈ L, r.length <= 4398046511104 /\ ∀ c ∈ r, c.2.length <= 140737488351232
theorem cloneRows_e {h : List (List AV)} {x : AV} (hx : RowsX h x []) : Contract Tryz.prog 153 [x] h (.sl 1 [] none .no) h [] := by
 have hid := hx.id
 refine contract_of k153 mixed (by simp [c153]) fun hh hargs => ?_
 simp [c153, hid]
 refine xcall_self (by simpa using hid) (clone_row_e hx) ?_
 simp
 refine xloop_ok (D := Nat) (fun _ => ⟨[(3, .sl 1 [] none .no), (8, .sl 1 [] none .no), (9, .v (.int .i64 0)), (10, .v (.int .i64 0))], [], h, []⟩) (fun _ => True) (fun _ => 0) 0 trivial ?_ ?_
 ·simp [Leq, hh]
 ·intro _ _
  simp [hh]
theorem cloneRows_x {h : List (List AV)} {x : AV} {L : List (List Cl)} (hx : RowsX h x L) (hne : L ≠ []) (hf : RowsFit L) : Contract Tryz.prog 153 [x] h (.bsl h.length 0 1 L.length) (h ++ [L.map rowA]) [] := by
 have hid := hx.id
 have hlt := hx.lt
 refine contract_of k153 mixed (by simp [c153]) fun hh hargs => ?_
 have hF := fun n => rowsL_lt n L
 have hl1 := hf.1
 simp [c153, hid]
 refine xcall_self (by simpa using hid) (clone_row_x hx hne (by omega)) ?_
 simp
 refine xloop_ok (D := Nat) (fun j => ⟨[(3, .bsl h.length 0 1 L.length), (8, .bsl h.length 0 1 L.length), (9, .v (.int .i64 L.length)), (10, .v (.int .i64 j))], [], h ++ [L.map rowA], []⟩) (fun j => j <= L.length) (fun j => L.length - j) 0 (by simp) ?_ ?_
 ·simp [Leq, hh, hF]
 ·intro j hj
  by_cases hlt : j < L.length
  ·have hw : IntKind.i64.wrap ((j : Int) + 1) = (j : Int) + 1 := wrap64 (by omega) (by omega)
   obtain ⟨f1, f2⟩ := hf.2 _ (List.getElem_mem hlt)
   have hsame : (L.map rowA).set j (rowA L[j]) = L.map rowA := by
    refine List.ext_getElem? fun q => ?_
    rw [List.getElem?_set]
    split
    ·rename_i e; subst e; simp [hlt]
    ·rfl
   simp [hlt, rowA_mk] at hsame ⊢
   refine xcall_self (by simp) (copyCells_c L[j] f1 f2 _) ?_
   have hnext : j + 1 <= L.length := hlt
   simp [hlt, hsame, hw, hnext]
   refine ⟨j + 1, by omega, by omega, ?_⟩
   simp [Leq, hh, hF]
  ·have : j = L.length := by omega
   subst this
   simp [hh, hF]
end Go.Proofs.YtknohkmpficjgaaGreatDoor.Ax
