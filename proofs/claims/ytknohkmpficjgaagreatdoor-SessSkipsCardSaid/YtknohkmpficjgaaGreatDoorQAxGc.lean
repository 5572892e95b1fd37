import Derived.Test.YtknohkmpficjgaaGreatDoorQAxXr
import Derived.Test.YtknohkmpficjgaaGreatDoorRows
import Derived.Test.YtknohkmpficjgaaGreatDoorQAxGb
set_option linter.unusedSimpArgs false
set_option linter.unusedVariables false
namespace Go.Proofs.YtknohkmpficjgaaGreatDoor.Ax
open Go.RowKit Go By
def c17 : XFun := ⟨44, (.seq (.ops [⟨(some 1), (.box (.tmp 0)), none⟩, ⟨(some 2), (.assign (.const (.bool false))), none⟩]) (.seq (.seq (.ops [⟨(some 3), (.faddr 5 (.tmp 1)), none⟩, ⟨(some 4), (.load1 (.tmp 3)), none⟩, ⟨(some 5), (.lenL (.tmp 4)), none⟩, ⟨(some 6), (.bin .gtr (.tmp 5) (.const (.int .i64 50))), none⟩, ⟨(some 7), (.move (.tmp 6)), none⟩, ⟨(some 8), (.faddr 6 (.tmp 1)), (some (7, false))⟩, ⟨(some 9), (.load1 (.tmp 8)), (some (7, false))⟩, ⟨(some 10), (.lenL (.tmp 9)), (some (7, false))⟩, ⟨(some 11), (.bin .gtr (.tmp 10) (.const (.int .i64 50))), (some (7, false))⟩, ⟨(some 12), (.pick (.tmp 7) (.const (.bool true)) (.tmp 11)), none⟩, ⟨(some 13), (.move (.tmp 12)), none⟩, ⟨(some 14), (.faddr 7 (.tmp 1)), (some (13, false))⟩, ⟨(some 15), (.load1 (.tmp 14)), (some (13, false))⟩, ⟨(some 16), (.lenL (.tmp 15)), (some (13, false))⟩, ⟨(some 17), (.bin .gtr (.tmp 16) (.const (.int .i64 50))), (some (13, false))⟩, ⟨(some 18), (.pick (.tmp 13) (.const (.bool true)) (.tmp 17)), none⟩, ⟨(some 19), (.move (.tmp 18)), none⟩, ⟨(some 20), (.faddr 8 (.tmp 1)), (some (19, false))⟩, ⟨(some 21), (.load1 (.tmp 20)), (some (19, false))⟩, ⟨(some 22), (.lenL (.tmp 21)), (some (19, false))⟩, ⟨(some 23), (.bin .gtr (.tmp 22) (.const (.int .i64 50))), (some (19, false))⟩, ⟨(some 24), (.pick (.tmp 19) (.const (.bool true)) (.tmp 23)), none⟩]) (.cond (.tmp 24) (.seq (.ops [⟨(some 2), (.assign (.const (.bool false))), none⟩]) .ret) .skip)) (.seq (.seq (.ops [⟨(some 25), (.faddr 8 (.tmp 1)), none⟩, ⟨(some 26), (.load1 (.tmp 25)), none⟩, ⟨(some 27), (.call 35 [(.tmp 26), (.func 36)]), none⟩]) (.cond (.tmp 27) (.seq (.ops [⟨(some 2), (.assign (.const (.bool false))), none⟩]) .ret) .skip)) (.seq (.ops [⟨(some 28), (.faddr 2 (.tmp 1)), none⟩, ⟨(some 29), (.load1 (.tmp 28)), none⟩, ⟨(some 30), (.lenS (.tmp 29)), none⟩, ⟨(some 31), (.bin .leq (.tmp 30) (.const (.int .i64 300))), none⟩, ⟨(some 32), (.move (.tmp 31)), none⟩, ⟨(some 33), (.faddr 3 (.tmp 1)), (some (32, true))⟩, ⟨(some 34), (.load1 (.tmp 33)), (some (32, true))⟩, ⟨(some 35), (.lenS (.tmp 34)), (some (32, true))⟩, ⟨(some 36), (.bin .leq (.tmp 35) (.const (.int .i64 300))), (some (32, true))⟩, ⟨(some 37), (.pick (.tmp 32) (.tmp 36) (.const (.bool false))), none⟩, ⟨(some 38), (.move (.tmp 37)), none⟩, ⟨(some 39), (.faddr 4 (.tmp 1)), (some (38, true))⟩, ⟨(some 40), (.load1 (.tmp 39)), (some (38, true))⟩, ⟨(some 41), (.lenS (.tmp 40)), (some (38, true))⟩, ⟨(some 42), (.bin .leq (.tmp 41) (.const (.int .i64 1000))), (some (38, true))⟩, ⟨(some 43), (.pick (.tmp 38) (.tmp 42) (.const (.bool false))), none⟩, ⟨(some 2), (.assign (.tmp 43)), none⟩]) .ret)))), [(.move (.tmp 2))]⟩
theorem k17 : cfun Tryz.prog 17 = some c17 := by kernel_rfl
def c36 : XFun := ⟨7, (.seq (.ops [⟨(some 1), (.box (.tmp 0)), none⟩, ⟨(some 2), (.assign (.const (.bool false))), none⟩]) (.seq (.ops [⟨(some 3), (.faddr 1 (.tmp 1)), none⟩, ⟨(some 4), (.load1 (.tmp 3)), none⟩, ⟨(some 5), (.lenL (.tmp 4)), none⟩, ⟨(some 6), (.bin .gtr (.tmp 5) (.const (.int .i64 300))), none⟩, ⟨(some 2), (.assign (.tmp 6)), none⟩]) .ret)), [(.move (.tmp 2))]⟩
theorem k36 : cfun Tryz.prog 36 = some c36 := by kernel_rfl
end Go.Proofs.YtknohkmpficjgaaGreatDoor.Ax
namespace Go.Proofs.YtknohkmpficjgaaGreatDoor.Ax
open Go.RowKit Go By Dg
set_option maxRecDepth 10000
def synC : List UInt8 := [52, 50, 54, 48, 49]
def synT : List UInt8 := [115, 121, 110, 116, 97, 120, 32, 101, 114, 114, 111, 114]
def abC : List UInt8 := [50, 53, 80, 48, 50]
def abT : List UInt8 := [99, 117, 114, 114, 101, 110, 116, 32, 116, 114, 97, 110, 115, 97, 99, 116, 105, 111, 110, 32, 105, 115, 32, 97, 98, 111, 114, 116, 101, 100, 44, 32, 99, 111, 109, 109, 97, 110, 100, 115, 32, 105, 103, 110, 111, 114, 101, 100, 32, 117, 110, 116, 105, 108, 32, 101, 110, 100, 32, 111, 102, 32, 116, 114, 97, 110, 115, 97, 99, 116, 105, 111, 110, 32, 98, 108, 111, 99, 107]
def relC : List UInt8 := [52, 50, 80, 48, 49]
def relT : List UInt8 := [114, 101, 108, 97, 116, 105, 111, 110, 32, 100, 111, 101, 115, 32, 110, 111, 116, 32, 101, 120, 105, 115, 116]
structure Vd where
 code : List UInt8
 text : List UInt8
 is : Bool
def vdV (d : Vd) : AV := .tup [.v (.string (strB d.code)), .v (.string (strB d.text)), .v (.bool d.is)]
def verdict (no : Bool) (v : Vb) (st : Int) : Vd :=
 if v.kind = 0 then ⟨synC, synT, true⟩ else if v.kind = 3 \/ v.kind = 4 then ⟨[], [], false⟩ else if st = 69 then ⟨abC, abT, true⟩ else if v.kind = 1 then ⟨[], [], false⟩ else if no = true then ⟨relC, relT, true⟩ else ⟨[], [], false⟩
theorem eaborted_c (h : List (List AV)) : Contract Tryz.prog 176 [] h (.v (.string (strB abT))) h [] := by
 refine contract_of k176 mixed (by simp [c176]) fun hh hargs => ?_
 simp [c176, hh, abT]
section
variable {h : List (List AV)} {i : Nat} {T : Eg}
theorem everdict_c (ht : EgAt h i T) (s : List UInt8) (hs : s.length <= 9223372036854775807) (st : Int) : Contract Tryz.prog 126 [.box i 0, .v (.string (strB s)), .v (.int .u8 st)] h (vdV (verdict (T.no s) (sayQ (trimL s)) st)) h [] := by
 refine contract_of k126 mixed (by simp [c126]) fun hh hargs => ?_
 simp [c126]
 refine xcall_self (by simp) (qparse_c s hs _) ?_
 generalize sayQ (trimL s) = v
 have hm := made_c (ht.app [vbC v])
 have hr := erefuses_c (ht.app [vbC v]) s
 simp
 refine xcall_self (by simp) hm ?_
 unfold verdict
 by_cases k0 : v.kind = 0
 ·simp [k0, hh, vdV, synC, synT, leqH_take]
 have k0' : (v.kind == 0) = false := by simpa using k0
 simp [k0, k0']
 refine xcall_self (by simp) (qexit_c v _) ?_
 by_cases k3 : v.kind = 3
 ·simp [k3, hh, vdV, leqH_take]
 by_cases k4 : v.kind = 4
 ·simp [k4, hh, vdV, leqH_take]
 have k3' : (v.kind == 3) = false := by simpa using k3
 have k4' : (v.kind == 4) = false := by simpa using k4
 simp [k3, k4, k3', k4']
 by_cases s69 : st = 69
 ·simp [s69]
  refine xcall_self (by simp) (eaborted_c _) ?_
  simp [hh, vdV, abC, leqH_take]
 have s69' : (st == 69) = false := by simpa using s69
 by_cases k1 : v.kind = 1
 ·simp [s69, s69', k1, hh, vdV, leqH_take]
 have k1' : (v.kind == 1) = false := by simpa using k1
 have k1n : (v.kind != 1) = true := by simpa using k1
 simp [s69, s69', k1, k1', k1n]
 refine xcall_self (by simp) hr ?_
 cases hn : T.no s with
 | true => simp [hh, vdV, relC, relT, leqH_take]
 | false => simp [hh, vdV, leqH_take]
def rowsV (v : Vb) (n : Nat) (ps : List Cl) : List (List Cl) := if v.kind = 5 then rowsK (heldI v.n).toNat else if v.kind = 6 then [ps] else if v.kind = 7 then [[(false, textL ((n : Int) + 1))]] else []
def nextV (v : Vb) (n : Nat) : Nat := if v.kind = 7 then n + 1 else n
theorem EgAt.set_self (ht : EgAt h i T) : h.set i (egC T.a T.n) = h := by
 obtain ⟨h1, h2⟩ := List.getElem?_eq_some_iff.1 ht.top
 rw [<- h2, List.set_getElem_self]
theorem erows_c (ht : EgAt h i T) (hn : T.n <= 1000000) (v : Vb) (ps : List Cl) (hl : ps.length <= 1000000) (hb : ∀ c ∈ ps, c.2.length <= 140737488351232) : Contract Tryz.prog 81 [.box i 0, .agg (vbC v), .sl 2 (enc cellC ps) none .no] h (.sl 1 (enc rowKC (rowsV v T.n ps)) none .no) (h.set i (egC T.a (nextV v T.n))) [i] := by
 have hset := ht.set_self
 have ht2 := ht.app [vbC v]
 have hi := ht.i_lt
 have ha := ht.a_lt
 refine contract_of k81 mixed (by simp [c81]) fun hh hargs => ?_
 simp [c81]
 refine xcall_self (by simp) (made_c ht2) ?_
 unfold rowsV nextV
 by_cases k5 : v.kind = 5
 ·simp [k5]
  refine xcall_self (by simp) (krows_c v.n _) ?_
  simp [hset, hh, leqH_take]
 have k5' : (v.kind == 5) = false := by simpa using k5
 by_cases k6 : v.kind = 6
 ·simp [k6]
  refine xcall_self (by simp) (copyCells_c ps (by omega) hb _) ?_
  simp [hset, hh, leqH_take, rowKC_mk]
 have k6' : (v.kind == 6) = false := by simpa using k6
 by_cases k7 : v.kind = 7
 ·have ht3 := enext_c ht2 hn
  have e : (h ++ [vbC v]).set i (egC T.a (T.n + 1)) = h.set i (egC T.a (T.n + 1)) ++ [vbC v] := by rw [List.set_append_left _ _ hi]
  rw [e] at ht3
  have hlen := dtext_len ((T.n : Int) + 1) (by omega) (by omega)
  have hlt := ltLL_set (i := i) hh (show ltL h.length (egC T.a (T.n + 1)) by simp [egC, ha])
  simp [k7]
  refine xcall_self (by simp) ht3 ?_
  simp
  refine xcall_self (by simp) (dtext_c ((T.n : Int) + 1) (by omega) (by omega) _) ?_
  simp [hh, leqH_take, rowKC_mk, cellC, hlt]
  omega
 have k7' : (v.kind == 7) = false := by simpa using k7
 simp [k5, k6, k7, k5', k6', k7', hset, hh, leqH_take]
theorem enew_c (h : List (List AV)) : Contract Tryz.prog 9 [] h (.box (h.length + 1) 0) (h ++ [mapC 0 [], egC h.length 0]) [] := by
 refine contract_of k9 mixed (by simp [c9]) fun hh hargs => ?_
 have hl := ltLL_mono (Nat.le_add_right h.length 2) hh
 simp [c9, hl, egC, mapC]
variable {L : List (List UInt8)} {n : Nat}
def newE (a : Nat) : Eg := ⟨a, 0, 0, []⟩
end
end Go.Proofs.YtknohkmpficjgaaGreatDoor.Ax
