import Derived.Test.YtdfgljojemmlcaaGreatQAxXr
import Derived.Test.YtdfgljojemmlcaaGreatRows
import Derived.Test.YtdfgljojemmlcaaGreatQAxKc0
import Derived.Test.YtdfgljojemmlcaaGreatQAxSc
import Derived.Test.YtdfgljojemmlcaaGreatQAxMs
import Derived.Test.YtdfgljojemmlcaaGreatQAxSo
import Derived.Shelf.Strconv.Clone
set_option linter.unusedSimpArgs false
set_option linter.unusedVariables false
namespace Go.Proofs.YtdfgljojemmlcaaGreat.Ax
open Go.RowKit Go By
def c19 : XFun := ⟨14, (.seq (.ops [⟨(some 2), (.assign (.const (.pointer none))), none⟩, ⟨(some 3), (.assign (.const (.int .i64 0))), none⟩]) (.seq (.seq (.ops [⟨(some 4), (.move (.tmp 0)), none⟩, ⟨(some 5), (.bin .lss (.tmp 4) (.const (.int .i64 1))), none⟩, ⟨(some 6), (.move (.tmp 5)), none⟩, ⟨(some 7), (.move (.tmp 0)), (some (6, false))⟩, ⟨(some 8), (.bin .gtr (.tmp 7) (.const (.int .i64 4096))), (some (6, false))⟩, ⟨(some 9), (.pick (.tmp 6) (.const (.bool true)) (.tmp 8)), none⟩]) (.cond (.tmp 9) (.seq (.ops [⟨(some 2), (.assign (.const (.pointer none))), none⟩, ⟨(some 3), (.assign (.const (.int .i64 1))), none⟩]) .ret) .skip)) (.seq (.ops [⟨(some 10), (.makeMap 1 true), none⟩, ⟨(some 11), (.move (.tmp 0)), none⟩, ⟨(some 12), (.build [(.v (.map none)), (.v (.int .i64 0))] [(0, (1, (.tmp 10))), (1, (1, (.tmp 11)))]), none⟩, ⟨(some 13), (.box (.tmp 12)), none⟩, ⟨(some 2), (.assign (.tmp 13)), none⟩, ⟨(some 3), (.assign (.const (.int .i64 0))), none⟩]) .ret))), [(.move (.tmp 2)), (.move (.tmp 3))]⟩
theorem k19 : cfun Tryz.prog 19 = some c19 := by kernel_rfl
def c23 : XFun := ⟨50, (.seq (.ops [⟨(some 6), (.assign (.const (.int .i64 0))), none⟩, ⟨(some 7), (.assign (.const (.int .i64 0))), none⟩]) (.seq (.seq (.ops [⟨(some 10), (.move (.tmp 0)), none⟩, ⟨(some 11), (.pnileq false (.tmp 10)), none⟩, ⟨(some 12), (.move (.tmp 11)), none⟩, ⟨(some 13), (.move (.tmp 0)), (some (12, false))⟩, ⟨(some 14), (.nilCheck (.tmp 13)), (some (12, false))⟩, ⟨(some 15), (.faddr 0 (.tmp 14)), (some (12, false))⟩, ⟨(some 16), (.load1 (.tmp 15)), (some (12, false))⟩, ⟨(some 17), (.mnileq false (.tmp 16)), (some (12, false))⟩, ⟨(some 18), (.pick (.tmp 12) (.const (.bool true)) (.tmp 17)), none⟩]) (.cond (.tmp 18) (.seq (.ops [⟨(some 6), (.assign (.const (.int .i64 0))), none⟩, ⟨(some 7), (.assign (.const (.int .i64 2))), none⟩]) .ret) .skip)) (.seq (.ops [⟨(some 20), (.move (.tmp 0)), none⟩, ⟨(some 21), (.nilCheck (.tmp 20)), none⟩, ⟨(some 22), (.faddr 0 (.tmp 21)), none⟩, ⟨(some 23), (.load1 (.tmp 22)), none⟩, ⟨(some 24), (.move (.tmp 1)), none⟩, ⟨(some 25), (.lookup none 1 true true [(.v (.int .i64 0))] (.tmp 23) (.tmp 24)), none⟩, ⟨(some 19), (.move (.tmp 25)), none⟩, ⟨(some 26), (.extract (.tmp 19) 0), none⟩, ⟨(some 27), (.extract (.tmp 19) 1), none⟩, ⟨(some 8), (.assign (.tmp 26)), none⟩, ⟨(some 9), (.assign (.tmp 27)), none⟩]) (.seq (.seq (.draws (.take ⟨(some 28), (.move (.tmp 9)), none⟩ (.take ⟨(some 29), (.un .not (.tmp 28)), none⟩ (.take ⟨(some 30), (.move (.tmp 29)), none⟩ (.take ⟨(some 31), (.move (.tmp 0)), (some (30, true))⟩ (.take ⟨(some 32), (.nilCheck (.tmp 31)), (some (30, true))⟩ (.take ⟨(some 33), (.faddr 0 (.tmp 32)), (some (30, true))⟩ (.take ⟨(some 34), (.load1 (.tmp 33)), (some (30, true))⟩ (.take ⟨(some 35), (.lenM 1 true (.tmp 34)), (some (30, true))⟩ (.take ⟨(some 36), (.move (.tmp 0)), (some (30, true))⟩ (.take ⟨(some 37), (.nilCheck (.tmp 36)), (some (30, true))⟩ (.take ⟨(some 38), (.faddr 1 (.tmp 37)), (some (30, true))⟩ (.take ⟨(some 39), (.load1 (.tmp 38)), (some (30, true))⟩ (.take ⟨(some 40), (.bin .geq (.tmp 35) (.tmp 39)), (some (30, true))⟩ (.take ⟨(some 41), (.pick (.tmp 30) (.tmp 40) (.const (.bool false))), none⟩ .done))))))))))))))) (.cond (.tmp 41) (.seq (.ops [⟨(some 6), (.assign (.const (.int .i64 0))), none⟩, ⟨(some 7), (.assign (.const (.int .i64 6))), none⟩]) .ret) .skip)) (.seq (.draws (.take ⟨(some 42), (.move (.tmp 0)), none⟩ (.take ⟨(some 43), (.nilCheck (.tmp 42)), none⟩ (.take ⟨(some 44), (.faddr 0 (.tmp 43)), none⟩ (.take ⟨(some 45), (.load1 (.tmp 44)), none⟩ (.take ⟨(some 46), (.move (.tmp 1)), none⟩ (.take ⟨(some 48), (.move (.tmp 2)), none⟩ (.only ⟨(some 47), (.call 51 [(.tmp 46)]), none⟩ (.last ⟨none, (.mapUpd none 1 true (.tmp 45) (.tmp 47) (.tmp 48)), none⟩))))))))) (.seq (.ops [⟨(some 49), (.move (.tmp 8)), none⟩, ⟨(some 6), (.assign (.tmp 49)), none⟩, ⟨(some 7), (.assign (.const (.int .i64 0))), none⟩]) .ret)))))), [(.move (.tmp 6)), (.move (.tmp 7))]⟩
theorem k23 : cfun Tryz.prog 23 = some c23 := by kernel_rfl
def c119 : XFun := ⟨21, (.seq (.ops [⟨(some 4), (.assign (.const (.int .i64 0))), none⟩, ⟨(some 5), (.assign (.const (.bool false))), none⟩]) (.seq (.seq (.ops [⟨(some 8), (.move (.tmp 0)), none⟩, ⟨(some 9), (.pnileq false (.tmp 8)), none⟩]) (.cond (.tmp 9) (.seq (.ops [⟨(some 4), (.assign (.const (.int .i64 0))), none⟩, ⟨(some 5), (.assign (.const (.bool false))), none⟩]) .ret) .skip)) (.seq (.ops [⟨(some 11), (.move (.tmp 0)), none⟩, ⟨(some 12), (.nilCheck (.tmp 11)), none⟩, ⟨(some 13), (.faddr 0 (.tmp 12)), none⟩, ⟨(some 14), (.load1 (.tmp 13)), none⟩, ⟨(some 15), (.move (.tmp 1)), none⟩, ⟨(some 16), (.lookup none 1 true true [(.v (.int .i64 0))] (.tmp 14) (.tmp 15)), none⟩, ⟨(some 10), (.move (.tmp 16)), none⟩, ⟨(some 17), (.extract (.tmp 10) 0), none⟩, ⟨(some 18), (.extract (.tmp 10) 1), none⟩, ⟨(some 6), (.assign (.tmp 17)), none⟩, ⟨(some 7), (.assign (.tmp 18)), none⟩]) (.seq (.ops [⟨(some 19), (.move (.tmp 6)), none⟩, ⟨(some 20), (.move (.tmp 7)), none⟩, ⟨(some 4), (.assign (.tmp 19)), none⟩, ⟨(some 5), (.assign (.tmp 20)), none⟩]) .ret)))), [(.move (.tmp 4)), (.move (.tmp 5))]⟩
theorem k119 : cfun Tryz.prog 119 = some c119 := by kernel_rfl
def c20 : XFun := ⟨13, (.seq (.ops [⟨(some 2), (.assign (.const (.pointer none))), none⟩, ⟨(some 3), (.assign (.const (.int .i64 0))), none⟩]) (.seq (.seq (.ops [⟨(some 4), (.move (.tmp 0)), none⟩, ⟨(some 5), (.bin .lss (.tmp 4) (.const (.int .i64 1))), none⟩, ⟨(some 6), (.move (.tmp 5)), none⟩, ⟨(some 7), (.move (.tmp 0)), (some (6, false))⟩, ⟨(some 8), (.bin .gtr (.tmp 7) (.const (.int .i64 4096))), (some (6, false))⟩, ⟨(some 9), (.pick (.tmp 6) (.const (.bool true)) (.tmp 8)), none⟩]) (.cond (.tmp 9) (.seq (.ops [⟨(some 2), (.assign (.const (.pointer none))), none⟩, ⟨(some 3), (.assign (.const (.int .i64 1))), none⟩]) .ret) .skip)) (.seq (.ops [⟨(some 10), (.move (.tmp 0)), none⟩, ⟨(some 11), (.build [(.sl 0 [] (some true) .exact), (.v (.int .i64 0))] [(1, (1, (.tmp 10)))]), none⟩, ⟨(some 12), (.box (.tmp 11)), none⟩, ⟨(some 2), (.assign (.tmp 12)), none⟩, ⟨(some 3), (.assign (.const (.int .i64 0))), none⟩]) .ret))), [(.move (.tmp 2)), (.move (.tmp 3))]⟩
theorem k20 : cfun Tryz.prog 20 = some c20 := by kernel_rfl
def c24 : XFun := ⟨100, (.seq (.ops [⟨(some 6), (.assign (.const (.int .i64 0))), none⟩, ⟨(some 7), (.assign (.const (.int .i64 0))), none⟩]) (.seq (.seq (.ops [⟨(some 8), (.assign (.const (.int .i64 0))), none⟩]) (.block 0 (.loop (.seq (.seq (.ops [⟨(some 11), (.move (.tmp 8)), none⟩, ⟨(some 12), (.move (.tmp 0)), none⟩, ⟨(some 13), (.nilCheck (.tmp 12)), none⟩, ⟨(some 14), (.faddr 0 (.tmp 13)), none⟩, ⟨(some 15), (.load1 (.tmp 14)), none⟩, ⟨(some 16), (.lenL (.tmp 15)), none⟩, ⟨(some 17), (.bin .lss (.tmp 11) (.tmp 16)), none⟩]) (.cond (.tmp 17) .skip (.exit 0))) (.seq (.block 1 (.seq (.ops [⟨(some 20), (.move (.tmp 0)), none⟩, ⟨(some 21), (.nilCheck (.tmp 20)), none⟩, ⟨(some 22), (.faddr 0 (.tmp 21)), none⟩, ⟨(some 23), (.load1 (.tmp 22)), none⟩, ⟨(some 24), (.move (.tmp 8)), none⟩, ⟨(some 25), (.iaddr 2 (.tmp 23) (.tmp 24)), none⟩, ⟨(some 26), (.faddr 0 (.tmp 25)), none⟩, ⟨(some 27), (.load1 (.tmp 26)), none⟩, ⟨(some 28), (.move (.tmp 1)), none⟩, ⟨(some 29), (.bin .eql (.tmp 27) (.tmp 28)), none⟩]) (.cond (.tmp 29) (.seq (.ops [⟨(some 30), (.move (.tmp 0)), none⟩, ⟨(some 31), (.nilCheck (.tmp 30)), none⟩, ⟨(some 32), (.faddr 0 (.tmp 31)), none⟩, ⟨(some 33), (.load1 (.tmp 32)), none⟩, ⟨(some 34), (.move (.tmp 8)), none⟩, ⟨(some 35), (.iaddr 2 (.tmp 33) (.tmp 34)), none⟩, ⟨(some 36), (.faddr 1 (.tmp 35)), none⟩, ⟨(some 37), (.load1 (.tmp 36)), none⟩, ⟨(some 9), (.assign (.tmp 37)), none⟩]) (.seq (.ops [⟨(some 38), (.move (.tmp 0)), none⟩, ⟨(some 39), (.nilCheck (.tmp 38)), none⟩, ⟨(some 40), (.faddr 0 (.tmp 39)), none⟩, ⟨(some 41), (.load1 (.tmp 40)), none⟩, ⟨(some 42), (.move (.tmp 8)), none⟩, ⟨(some 43), (.move (.tmp 2)), none⟩, ⟨(some 44), (.iaddr 2 (.tmp 41) (.tmp 42)), none⟩, ⟨(some 45), (.faddr 1 (.tmp 44)), none⟩, ⟨none, (.store 1 (.tmp 45) (.tmp 43)), none⟩]) (.seq (.ops [⟨(some 46), (.move (.tmp 9)), none⟩, ⟨(some 6), (.assign (.tmp 46)), none⟩, ⟨(some 7), (.assign (.const (.int .i64 0))), none⟩]) .ret))) .skip))) (.ops [⟨(some 18), (.move (.tmp 8)), none⟩, ⟨(some 19), (.bin .add (.tmp 18) (.const (.int .i64 1))), none⟩, ⟨(some 8), (.assign (.tmp 19)), none⟩])))))) (.seq (.seq (.draws (.take ⟨(some 47), (.move (.tmp 0)), none⟩ (.take ⟨(some 48), (.nilCheck (.tmp 47)), none⟩ (.take ⟨(some 49), (.faddr 0 (.tmp 48)), none⟩ (.take ⟨(some 50), (.load1 (.tmp 49)), none⟩ (.take ⟨(some 51), (.lenL (.tmp 50)), none⟩ (.take ⟨(some 52), (.move (.tmp 0)), none⟩ (.take ⟨(some 53), (.nilCheck (.tmp 52)), none⟩ (.take ⟨(some 54), (.faddr 1 (.tmp 53)), none⟩ (.take ⟨(some 55), (.load1 (.tmp 54)), none⟩ (.take ⟨(some 56), (.bin .geq (.tmp 51) (.tmp 55)), none⟩ .done))))))))))) (.cond (.tmp 56) (.seq (.ops [⟨(some 6), (.assign (.const (.int .i64 0))), none⟩, ⟨(some 7), (.assign (.const (.int .i64 6))), none⟩]) .ret) .skip)) (.seq (.ops [⟨(some 10), (.assign (.const (.int .i64 0))), none⟩]) (.seq (.block 2 (.loop (.seq (.seq (.ops [⟨(some 57), (.move (.tmp 10)), none⟩, ⟨(some 58), (.move (.tmp 0)), none⟩, ⟨(some 59), (.nilCheck (.tmp 58)), none⟩, ⟨(some 60), (.faddr 0 (.tmp 59)), none⟩, ⟨(some 61), (.load1 (.tmp 60)), none⟩, ⟨(some 62), (.lenL (.tmp 61)), none⟩, ⟨(some 63), (.bin .lss (.tmp 57) (.tmp 62)), none⟩, ⟨(some 64), (.move (.tmp 63)), none⟩, ⟨(some 65), (.move (.tmp 0)), (some (64, true))⟩, ⟨(some 66), (.nilCheck (.tmp 65)), (some (64, true))⟩, ⟨(some 67), (.faddr 0 (.tmp 66)), (some (64, true))⟩, ⟨(some 68), (.load1 (.tmp 67)), (some (64, true))⟩, ⟨(some 69), (.move (.tmp 10)), (some (64, true))⟩, ⟨(some 70), (.iaddr 2 (.tmp 68) (.tmp 69)), (some (64, true))⟩, ⟨(some 71), (.faddr 0 (.tmp 70)), (some (64, true))⟩, ⟨(some 72), (.load1 (.tmp 71)), (some (64, true))⟩, ⟨(some 73), (.move (.tmp 1)), (some (64, true))⟩, ⟨(some 74), (.bin .lss (.tmp 72) (.tmp 73)), (some (64, true))⟩, ⟨(some 75), (.pick (.tmp 64) (.tmp 74) (.const (.bool false))), none⟩]) (.cond (.tmp 75) .skip (.exit 2))) (.block 3 (.ops [⟨(some 76), (.move (.tmp 10)), none⟩, ⟨(some 77), (.bin .add (.tmp 76) (.const (.int .i64 1))), none⟩, ⟨(some 10), (.assign (.tmp 77)), none⟩]))))) (.seq (.draws (.take ⟨(some 78), (.move (.tmp 0)), none⟩ (.take ⟨(some 79), (.move (.tmp 0)), none⟩ (.take ⟨(some 80), (.nilCheck (.tmp 79)), none⟩ (.take ⟨(some 81), (.faddr 0 (.tmp 80)), none⟩ (.take ⟨(some 82), (.load1 (.tmp 81)), none⟩ (.take ⟨(some 83), (.move (.tmp 10)), none⟩ (.take ⟨(some 84), (.slice 2 (.tmp 82) none (some (.tmp 83)) none), none⟩ (.take ⟨(some 86), (.move (.tmp 1)), none⟩ (.take ⟨(some 87), (.move (.tmp 2)), none⟩ (.take ⟨(some 88), (.build [(.v (.string (strB []))), (.v (.int .i64 0))] [(0, (1, (.tmp 86))), (1, (1, (.tmp 87)))]), none⟩ (.take ⟨(some 91), (.move (.tmp 0)), none⟩ (.take ⟨(some 92), (.nilCheck (.tmp 91)), none⟩ (.take ⟨(some 93), (.faddr 0 (.tmp 92)), none⟩ (.take ⟨(some 94), (.load1 (.tmp 93)), none⟩ (.take ⟨(some 95), (.move (.tmp 10)), none⟩ (.take ⟨(some 96), (.slice 2 (.tmp 94) (some (.tmp 95)) none none), none⟩ (.two ⟨(some 85), (.appendN 2 24 (.tmp 84)), none⟩ ⟨(some 89), (.buildSlice 2 1 [(.v (.string (strB []))), (.v (.int .i64 0))] [(0, (.tmp 88))]), none⟩ (.only ⟨(some 89), (.buildSlice 2 1 [(.v (.string (strB []))), (.v (.int .i64 0))] [(0, (.tmp 88))]), none⟩ (.only ⟨(some 90), (.append 2 24 (.tmp 85) (.tmp 89)), none⟩ (.only ⟨(some 97), (.append 2 24 (.tmp 90) (.tmp 96)), none⟩ (.take ⟨(some 98), (.nilCheck (.tmp 78)), none⟩ (.take ⟨(some 99), (.faddr 0 (.tmp 98)), none⟩ (.last ⟨none, (.store 1 (.tmp 99) (.tmp 97)), none⟩)))))) (.only ⟨(some 85), (.appendN 2 24 (.tmp 84)), none⟩ (.only ⟨(some 90), (.append 2 24 (.tmp 85) (.tmp 89)), none⟩ (.only ⟨(some 97), (.append 2 24 (.tmp 90) (.tmp 96)), none⟩ (.take ⟨(some 98), (.nilCheck (.tmp 78)), none⟩ (.take ⟨(some 99), (.faddr 0 (.tmp 98)), none⟩ (.last ⟨none, (.store 1 (.tmp 99) (.tmp 97)), none⟩)))))))))))))))))))))))) (.seq (.ops [⟨(some 6), (.assign (.const (.int .i64 0))), none⟩, ⟨(some 7), (.assign (.const (.int .i64 0))), none⟩]) .ret))))))), [(.move (.tmp 6)), (.move (.tmp 7))]⟩
theorem k24 : cfun Tryz.prog 24 = some c24 := by kernel_rfl
def c51 : XFun := ⟨5, (.seq (.ops [⟨(some 2), (.assign (.const (.string (strB [])))), none⟩]) (.seq (.ops [⟨(some 3), (.move (.tmp 0)), none⟩, ⟨(some 4), (.call 90 [(.tmp 3)]), none⟩, ⟨(some 2), (.assign (.tmp 4)), none⟩]) .ret)), [(.move (.tmp 2))]⟩
theorem k51 : cfun Tryz.prog 51 = some c51 := by kernel_rfl
end Go.Proofs.YtdfgljojemmlcaaGreat.Ax
namespace Go.Proofs.YtdfgljojemmlcaaGreat.Ax
open Go.RowKit Go By Go.Sort Go.Shelf
def cloneRen : Go.Shelf.Ren := ⟨fun | 316 => 90 | n => n, fun | 0 => 0 | 3 => 3 | 4 => 4 | 5 => 5 | 9 => 9 | 37 => 52 | 127 => 169 | n => n, fun | n => n⟩
theorem cloneLays : LaysM.n316 Tryz.prog cloneRen := {
 mixed := by kernel_rfl
 f316 := Tryz.func90.trans (congrArg some (by kernel_rfl))
 t0 := Tryz.underlying0
 a0 := Tryz.isAgg0
 z0 := Tryz.sizeOf0
 v0 := Tryz.zeroValue0
 t3 := Tryz.underlying3
 a3 := Tryz.isAgg3
 z3 := Tryz.sizeOf3
 v3 := Tryz.zeroValue3
 t4 := Tryz.underlying4
 a4 := Tryz.isAgg4
 z4 := Tryz.sizeOf4
 v4 := Tryz.zeroValue4
 t5 := Tryz.underlying5
 a5 := Tryz.isAgg5
 z5 := Tryz.sizeOf5
 v5 := Tryz.zeroValue5
 t9 := Tryz.underlying9
 a9 := Tryz.isAgg9
 z9 := Tryz.sizeOf9
 v9 := Tryz.zeroValue9
 t37 := Tryz.underlying52
 a37 := Tryz.isAgg52
 z37 := Tryz.sizeOf52
 v37 := Tryz.zeroValue52
 t127 := Tryz.underlying169
 a127 := Tryz.isAgg169
 z127 := Tryz.sizeOf169
 v127 := Tryz.zeroValue169
 i0 := by kernel_rfl
 i3 := by kernel_rfl
 i4 := by kernel_rfl
 i5 := by kernel_rfl
 i9 := by kernel_rfl
 i37 := by kernel_rfl
 i127 := by kernel_rfl }
theorem slclone_c (s : List UInt8) (hs : s.length <= 281474976710656) (h : List (List AV)) : Contract Tryz.prog 90 [.v (.string (strB s))] h (.v (.string (strB s))) h [] :=
 contract_blank (by kernel_rfl) rfl fun G w vs _ hv => by
  rw [plain_vals (l := [.string (strB s)]) hv]
  refine (Any.stringslite_Clone cloneLays (strB s) w (by rw [strB_size]; exact hs)).mono fun e w' he => ?_
  exact ⟨_, he.1, .v _, he.2⟩
theorem sclone_c (s : List UInt8) (hs : s.length <= 281474976710656) (h : List (List AV)) : Contract Tryz.prog 51 [.v (.string (strB s))] h (.v (.string (strB s))) h [] := by
 refine contract_of k51 mixed (by simp [c51]) fun hh hargs => ?_
 simp [c51]
 refine xcall_self (by simp) (slclone_c s hs _) ?_
 simp [hh]
theorem bLess_eq : ∀ (x y : List UInt8), Op.bytesLess x y = decide (x < y) := Go.Proofs.bytesLess_eq
def sortS (l : List (List UInt8)) : List (List UInt8) := l.mergeSort fun x y => decide (x <= y)
theorem sorted_strs {l m : List (List UInt8)} (hl : l.Pairwise (· < ·)) (hm : m.Nodup) (h : ∀ x, x ∈ m ↔ x ∈ l) : sortS m = l := by
 have hnd : l.Nodup := hl.imp fun {a b} h e => by subst e; exact List.lt_irrefl _ h
 have hp : m.Perm l := (List.perm_ext_iff_of_nodup hm hnd).2 h
 have h1 : (sortS m).Perm l := (List.mergeSort_perm ..).trans hp
 have h2 : (sortS m).Pairwise (fun x y => decide (x <= y) = true) := List.pairwise_mergeSort (fun a b c h1 h2 => by simp at *; exact List.le_trans h1 h2) (fun a b => by simp; exact List.le_total a b) _
 have h3 : l.Pairwise (fun x y => decide (x <= y) = true) := hl.imp fun h => by simp; exact List.le_of_lt h
 exact h1.eq_of_pairwise (fun a b _ _ h1 h2 => by simp at h1 h2; exact List.le_antisymm h1 h2) h2 h3
end Go.Proofs.YtdfgljojemmlcaaGreat.Ax
