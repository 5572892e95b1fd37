/- The contracts of package wire's checks and of what it writes, over values without memory. -/
import Derived.Test.YtkcampfbpmjacaaQAxX
import Derived.Test.YtkcampfbpmjacaaRows
import Derived.Test.YtkcampfbpmjacaaQAxBa
import Derived.Test.YtkcampfbpmjacaaQAxTz
/- The texts of functions over values without memory, as the kernel reckons them out of the program. -/
namespace Go.Proofs.Ytkcampfbpmjacaa.Ax
open Go.RowKit Go By

def c47 : XFun := ⟨6, (.seq (.ops [⟨(some 2), (.assign (.const (.bool false))), none⟩]) (.seq (.ops [⟨(some 3), (.move (.tmp 0)), none⟩, ⟨(some 4), (.call 63 [(.tmp 3), (.func 64)]), none⟩, ⟨(some 5), (.un .not (.tmp 4)), none⟩, ⟨(some 2), (.assign (.tmp 5)), none⟩]) .ret)), [(.move (.tmp 2))]⟩
theorem k47 : cfun Try.prog 47 = some c47 := by kernel_rfl
def c48 : XFun := ⟨9, (.seq (.ops [⟨(some 2), (.box (.tmp 0)), none⟩, ⟨(some 4), (.assign (.const (.bool false))), none⟩]) (.seq (.ops [⟨(some 5), (.move (.tmp 1)), none⟩, ⟨(some 6), (.mkfn (.func 67) [] [(.tmp 2)]), none⟩, ⟨(some 7), (.call 66 [(.tmp 5), (.tmp 6)]), none⟩, ⟨(some 8), (.un .not (.tmp 7)), none⟩, ⟨(some 4), (.assign (.tmp 8)), none⟩]) .ret)), [(.move (.tmp 4))]⟩
theorem k48 : cfun Try.prog 48 = some c48 := by kernel_rfl
def c72 : XFun := ⟨8, (.seq (.ops [⟨(some 4), (.assign (.const (.bool false))), none⟩]) (.seq (.ops [⟨(some 5), (.move (.tmp 0)), none⟩, ⟨(some 6), (.move (.tmp 1)), none⟩, ⟨(some 7), (.call 86 [(.tmp 5), (.tmp 6), (.func 87)]), none⟩, ⟨(some 4), (.assign (.tmp 7)), none⟩]) .ret)), [(.move (.tmp 4))]⟩
theorem k72 : cfun Try.prog 72 = some c72 := by kernel_rfl
def c61 : XFun := ⟨9, (.seq (.ops [⟨(some 2), (.box (.tmp 0)), none⟩, ⟨(some 4), (.assign (.const (.bool false))), none⟩]) (.seq (.ops [⟨(some 5), (.move (.tmp 1)), none⟩, ⟨(some 6), (.mkfn (.func 79) [] [(.tmp 2)]), none⟩, ⟨(some 7), (.call 66 [(.tmp 5), (.tmp 6)]), none⟩, ⟨(some 8), (.un .not (.tmp 7)), none⟩, ⟨(some 4), (.assign (.tmp 8)), none⟩]) .ret)), [(.move (.tmp 4))]⟩
theorem k61 : cfun Try.prog 61 = some c61 := by kernel_rfl
def c62 : XFun := ⟨6, (.seq (.ops [⟨(some 2), (.assign (.const (.bool false))), none⟩]) (.seq (.ops [⟨(some 3), (.move (.tmp 0)), none⟩, ⟨(some 4), (.call 80 [(.tmp 3), (.func 81)]), none⟩, ⟨(some 5), (.un .not (.tmp 4)), none⟩, ⟨(some 2), (.assign (.tmp 5)), none⟩]) .ret)), [(.move (.tmp 2))]⟩
theorem k62 : cfun Try.prog 62 = some c62 := by kernel_rfl
def c64 : XFun := ⟨6, (.seq (.ops [⟨(some 2), (.assign (.const (.bool false))), none⟩]) (.seq (.ops [⟨(some 3), (.move (.tmp 0)), none⟩, ⟨(some 4), (.call 65 [(.tmp 3)]), none⟩, ⟨(some 5), (.un .not (.tmp 4)), none⟩, ⟨(some 2), (.assign (.tmp 5)), none⟩]) .ret)), [(.move (.tmp 2))]⟩
theorem k64 : cfun Try.prog 64 = some c64 := by kernel_rfl
def c67 : XFun := ⟨15, (.seq (.ops [⟨(some 3), (.assign (.const (.bool false))), none⟩]) (.seq (.ops [⟨(some 4), (.move (.tmp 0)), none⟩, ⟨(some 5), (.load1 (.tmp 1)), none⟩, ⟨(some 6), (.call 68 [(.tmp 4), (.tmp 5)]), none⟩, ⟨(some 7), (.un .not (.tmp 6)), none⟩, ⟨(some 8), (.move (.tmp 7)), none⟩, ⟨(some 9), (.move (.tmp 0)), (some (8, false))⟩, ⟨(some 10), (.load1 (.tmp 1)), (some (8, false))⟩, ⟨(some 11), (.call 69 [(.tmp 9), (.tmp 10)]), (some (8, false))⟩, ⟨(some 12), (.move (.tmp 0)), (some (8, false))⟩, ⟨(some 13), (.bin .neq (.tmp 11) (.tmp 12)), (some (8, false))⟩, ⟨(some 14), (.pick (.tmp 8) (.const (.bool true)) (.tmp 13)), none⟩, ⟨(some 3), (.assign (.tmp 14)), none⟩]) .ret)), [(.move (.tmp 3))]⟩
theorem k67 : cfun Try.prog 67 = some c67 := by kernel_rfl
def c87 : XFun := ⟨17, (.seq (.ops [⟨(some 2), (.box (.tmp 0)), none⟩, ⟨(some 3), (.box (.tmp 1)), none⟩, ⟨(some 4), (.assign (.const (.bool false))), none⟩]) (.seq (.ops [⟨(some 5), (.faddr 0 (.tmp 2)), none⟩, ⟨(some 6), (.load1 (.tmp 5)), none⟩, ⟨(some 7), (.faddr 0 (.tmp 3)), none⟩, ⟨(some 8), (.load1 (.tmp 7)), none⟩, ⟨(some 9), (.beq false (.tmp 6) (.tmp 8)), none⟩, ⟨(some 10), (.move (.tmp 9)), none⟩, ⟨(some 11), (.faddr 1 (.tmp 2)), (some (10, true))⟩, ⟨(some 12), (.load1 (.tmp 11)), (some (10, true))⟩, ⟨(some 13), (.faddr 1 (.tmp 3)), (some (10, true))⟩, ⟨(some 14), (.load1 (.tmp 13)), (some (10, true))⟩, ⟨(some 15), (.call 88 [(.tmp 12), (.tmp 14)]), (some (10, true))⟩, ⟨(some 16), (.pick (.tmp 10) (.tmp 15) (.const (.bool false))), none⟩, ⟨(some 4), (.assign (.tmp 16)), none⟩]) .ret)), [(.move (.tmp 4))]⟩
theorem k87 : cfun Try.prog 87 = some c87 := by kernel_rfl
def c79 : XFun := ⟨12, (.seq (.ops [⟨(some 3), (.assign (.const (.bool false))), none⟩]) (.seq (.ops [⟨(some 4), (.move (.tmp 0)), none⟩, ⟨(some 5), (.bin .lss (.tmp 4) (.const (.int .i64 0))), none⟩, ⟨(some 6), (.move (.tmp 5)), none⟩, ⟨(some 7), (.move (.tmp 0)), (some (6, false))⟩, ⟨(some 8), (.load1 (.tmp 1)), (some (6, false))⟩, ⟨(some 9), (.call 68 [(.tmp 7), (.tmp 8)]), (some (6, false))⟩, ⟨(some 10), (.un .not (.tmp 9)), (some (6, false))⟩, ⟨(some 11), (.pick (.tmp 6) (.const (.bool true)) (.tmp 10)), none⟩, ⟨(some 3), (.assign (.tmp 11)), none⟩]) .ret)), [(.move (.tmp 3))]⟩
theorem k79 : cfun Try.prog 79 = some c79 := by kernel_rfl
def c81 : XFun := ⟨17, (.seq (.ops [⟨(some 1), (.box (.tmp 0)), none⟩, ⟨(some 2), (.assign (.const (.bool false))), none⟩]) (.seq (.ops [⟨(some 3), (.faddr 1 (.tmp 1)), none⟩, ⟨(some 4), (.load1 (.tmp 3)), none⟩, ⟨(some 5), (.lenL (.tmp 4)), none⟩, ⟨(some 6), (.bin .gtr (.tmp 5) (.const (.int .i64 1048576))), none⟩, ⟨(some 7), (.move (.tmp 6)), none⟩, ⟨(some 8), (.faddr 0 (.tmp 1)), (some (7, false))⟩, ⟨(some 9), (.load1 (.tmp 8)), (some (7, false))⟩, ⟨(some 10), (.move (.tmp 9)), (some (7, false))⟩, ⟨(some 11), (.faddr 1 (.tmp 1)), (some (10, true))⟩, ⟨(some 12), (.load1 (.tmp 11)), (some (10, true))⟩, ⟨(some 13), (.lenL (.tmp 12)), (some (10, true))⟩, ⟨(some 14), (.bin .gtr (.tmp 13) (.const (.int .i64 0))), (some (10, true))⟩, ⟨(some 15), (.pick (.tmp 10) (.tmp 14) (.const (.bool false))), (some (7, false))⟩, ⟨(some 16), (.pick (.tmp 7) (.const (.bool true)) (.tmp 15)), none⟩, ⟨(some 2), (.assign (.tmp 16)), none⟩]) .ret)), [(.move (.tmp 2))]⟩
theorem k81 : cfun Try.prog 81 = some c81 := by kernel_rfl
end Go.Proofs.Ytkcampfbpmjacaa.Ax
namespace Go.Proofs.Ytkcampfbpmjacaa.Ax
open Go.RowKit Go By Nm Sc Dg
set_option linter.unusedSimpArgs false
set_option maxRecDepth 10000

/-! ### bytes.Equal -/
theorem equal_c (xs ys : List UInt8) (h : List (List AV)) : Contract Try.prog 88 [.sl 1 (bytesE xs) none .no, .sl 1 (bytesE ys) none .no] h (.v (.bool (xs == ys))) h [] := by
  refine contract_of k88 mixed (by simp [c88]) fun hh hargs => ?_
  simp [c88, hh]

/-! ### Checks -/
theorem wclean1_c (s : List UInt8) (h : List (List AV)) : Contract Try.prog 64 [.v (.string (strB s))] h (.v (.bool (!cleanB s))) h [] := by
  refine contract_of k64 mixed (by simp [c64]) fun hh hargs => ?_
  simp [c64]
  refine xcall_self (by simp) (clean_c s h) ?_
  simp [hh]
theorem wclean_c (l : List (List UInt8)) (hl : l.length ≤ 140737488355328) (h : List (List AV)) : Contract Try.prog 47 [.sl 1 (enc strC l) none .no] h (.v (.bool (l.all cleanB))) h [] := by
  refine contract_of k47 mixed (by simp [c47]) fun hh hargs => ?_
  simp [c47]
  refine xcall_self (by simp) (contains1_any mixed k63 k82 (fun s => .v (.string (strB s))) (fun s => !cleanB s) l [] h (by simp) (by simp) (by simp) (fun s _ => wclean1_c s h) hl) ?_
  simp [hh, List.not_any_eq_all_not]
def unsB (size n : Int) : Bool := !decide (n < 0) && rightB n size
theorem wuns1_c (size n : Int) (i : Nat) (h : List (List AV)) (hi : h[i]? = some [.v (.int .i64 size)]) : Contract Try.prog 79 [.v (.int .i64 n), .box i 0] h (.v (.bool (!unsB size n))) h [] := by
  refine contract_of k79 mixed (by simp [c79]) fun hh hargs => ?_
  by_cases hn : n < 0
  · simp [c79, hn, hh, unsB]
  · simp [c79, hn, hi]
    refine xcall_self (by simp) (right_c n size h) ?_
    simp [hh, unsB, hn]
theorem wuns_c (size : Int) (l : List Int) (hl : l.length ≤ 140737488355328) (h : List (List AV)) : Contract Try.prog 61 [.v (.int .i64 size), .sl 1 (enc intC l) none .no] h (.v (.bool (l.all (unsB size)))) h [] := by
  refine contract_of k61 mixed (by simp [c61]) fun hh hargs => ?_
  simp [c61]
  refine xcall_self (by simp) (contains1_any mixed k66 k83 (fun n => .v (.int .i64 n)) (fun n => !unsB size n) l [.box h.length 0] _ (by simp) (by simp) (by simp) (fun n _ => wuns1_c size n _ _ (by simp)) hl) ?_
  simp [hh, List.not_any_eq_all_not]
def sgnB (size n : Int) : Bool := rightB n size && signedI n size == n
theorem wsgn1_c (size n : Int) (i : Nat) (h : List (List AV)) (hi : h[i]? = some [.v (.int .i64 size)]) : Contract Try.prog 67 [.v (.int .i64 n), .box i 0] h (.v (.bool (!sgnB size n))) h [] := by
  refine contract_of k67 mixed (by simp [c67]) fun hh hargs => ?_
  simp [c67, hi]
  refine xcall_self (by simp) (right_c n size h) ?_
  cases hr : rightB n size with
  | false => simp [hh, sgnB, hr]
  | true =>
    simp [hi]
    refine xcall_self (by simp) (signed_c n size h) ?_
    simp [hh, sgnB, hr]
    rfl
theorem wsgn_c (size : Int) (l : List Int) (hl : l.length ≤ 140737488355328) (h : List (List AV)) : Contract Try.prog 48 [.v (.int .i64 size), .sl 1 (enc intC l) none .no] h (.v (.bool (l.all (sgnB size)))) h [] := by
  refine contract_of k48 mixed (by simp [c48]) fun hh hargs => ?_
  simp [c48]
  refine xcall_self (by simp) (contains1_any mixed k66 k83 (fun n => .v (.int .i64 n)) (fun n => !sgnB size n) l [.box h.length 0] _ (by simp) (by simp) (by simp) (fun n _ => wsgn1_c size n _ _ (by simp)) hl) ?_
  simp [hh, List.not_any_eq_all_not]
/-- A cell may be said. -/
def cellB (c : Cl) : Bool := decide (c.2.length ≤ 1048576) && !(c.1 && decide (0 < c.2.length))
theorem wcell1_c (c : Cl) (hc : c.2.length ≤ 140737488355328) (h : List (List AV)) : Contract Try.prog 81 [.agg (cellC c)] h (.v (.bool (!cellB c))) h [] := by
  refine contract_of k81 mixed (by simp [c81]) fun hh hargs => ?_
  obtain ⟨n, b⟩ := c
  by_cases hb : (1048576 : Int) < b.length
  · have hb' : ¬ b.length ≤ 1048576 := by omega
    simp [c81, cellC, hb, hb', hh, cellB]
  · have hb' : b.length ≤ 1048576 := by omega
    cases n with
    | false => simp [c81, cellC, hb, hb', hh, cellB]
    | true =>
      simp [c81, cellC, hb, hb', hh, cellB]
theorem wcells_c (l : List Cl) (hl : l.length ≤ 140737488355328) (hc : ∀ c ∈ l, c.2.length ≤ 140737488355328) (h : List (List AV)) : Contract Try.prog 62 [.sl 2 (enc cellC l) none .no] h (.v (.bool (l.all cellB))) h [] := by
  refine contract_of k62 mixed (by simp [c62]) fun hh hargs => ?_
  simp [c62]
  refine xcall_self (by simp) (containsN_any mixed k80 k91 cellC (fun c => !cellB c) l [] h (by simp) (by simp) (by simp) (fun c hm => wcell1_c c (hc c hm) h) hl) ?_
  simp [hh, List.not_any_eq_all_not]
theorem wsame1_c (a b : Cl) (h : List (List AV)) : Contract Try.prog 87 [.agg (cellC a), .agg (cellC b)] h (.v (.bool (a == b))) h [] := by
  refine contract_of k87 mixed (by simp [c87]) fun hh hargs => ?_
  obtain ⟨n, x⟩ := a
  obtain ⟨m, y⟩ := b
  have e : ((n, x) == (m, y)) = (n == m && x == y) := rfl
  cases hnm : n == m with
  | false => simp [c87, cellC, hnm, hh, e]
  | true =>
    simp [c87, cellC, hnm]
    refine xcall_self (by simp) (equal_c x y _) ?_
    simp [hh, e, hnm]
theorem wsame_c (l m : List Cl) (hl : l.length ≤ 140737488355328) (h : List (List AV)) : Contract Try.prog 72 [.sl 2 (enc cellC l) none .no, .sl 2 (enc cellC m) none .no] h (.v (.bool (l == m))) h [] := by
  refine contract_of k72 mixed (by simp [c72]) fun hh hargs => ?_
  simp [c72]
  refine xcall_self (by simp) (equalF_any mixed k86 (by rfl) (· == ·) cellC (by simp) (by simp) l m h (fun x y h => wsame1_c x y h) hl) ?_
  simp [hh, eqL_beq]
end Go.Proofs.Ytkcampfbpmjacaa.Ax
