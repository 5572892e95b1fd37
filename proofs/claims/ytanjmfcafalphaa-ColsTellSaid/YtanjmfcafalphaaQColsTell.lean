/- Any number of columns, of rows, and its tag, is what the document says (P10.1). -/
import Derived.Test.YtanjmfcafalphaaQAxXr
import Derived.Test.YtanjmfcafalphaaRows
import Derived.Test.YtanjmfcafalphaaQAxBl
import Derived.Test.YtanjmfcafalphaaQAxFq
import Derived.Test.YtanjmfcafalphaaQAxKc
import Derived.Test.YtanjmfcafalphaaQElems
import Derived.SizedLaws
import Derived.WalkKit
import Derived.ProofKit
import Derived.OpenShut
import Derived.ShutString
import Derived.ChangeOld
import Derived.Below
/- The texts of functions over values without memory, as the kernel reckons them out of the program. -/
namespace Go.Proofs.Ytanjmfcafalphaa.Ax
open Go.RowKit Go By

def c10 : XFun := ⟨127, (.seq (.ops [⟨(some 2), (.box (.tmp 0)), none⟩, ⟨(some 3), (.box (.tmp 1)), none⟩, ⟨(some 4), (.assign (.const (.bool false))), none⟩]) (.seq (.ops [⟨(some 8), (.faddr 0 (.tmp 2)), none⟩, ⟨(some 9), (.load1 (.tmp 8)), none⟩, ⟨(some 10), (.faddr 0 (.tmp 3)), none⟩, ⟨(some 11), (.load1 (.tmp 10)), none⟩, ⟨(some 12), (.bin .eql (.tmp 9) (.tmp 11)), none⟩, ⟨(some 13), (.move (.tmp 12)), none⟩, ⟨(some 14), (.faddr 1 (.tmp 2)), (some (13, true))⟩, ⟨(some 15), (.load1 (.tmp 14)), (some (13, true))⟩, ⟨(some 16), (.faddr 1 (.tmp 3)), (some (13, true))⟩, ⟨(some 17), (.load1 (.tmp 16)), (some (13, true))⟩, ⟨(some 18), (.bin .eql (.tmp 15) (.tmp 17)), (some (13, true))⟩, ⟨(some 19), (.pick (.tmp 13) (.tmp 18) (.const (.bool false))), none⟩, ⟨(some 20), (.move (.tmp 19)), none⟩, ⟨(some 21), (.faddr 2 (.tmp 2)), (some (20, true))⟩, ⟨(some 22), (.load1 (.tmp 21)), (some (20, true))⟩, ⟨(some 23), (.faddr 2 (.tmp 3)), (some (20, true))⟩, ⟨(some 24), (.load1 (.tmp 23)), (some (20, true))⟩, ⟨(some 25), (.bin .eql (.tmp 22) (.tmp 24)), (some (20, true))⟩, ⟨(some 26), (.pick (.tmp 20) (.tmp 25) (.const (.bool false))), none⟩, ⟨(some 27), (.move (.tmp 26)), none⟩, ⟨(some 28), (.faddr 3 (.tmp 2)), (some (27, true))⟩, ⟨(some 29), (.load1 (.tmp 28)), (some (27, true))⟩, ⟨(some 30), (.faddr 3 (.tmp 3)), (some (27, true))⟩, ⟨(some 31), (.load1 (.tmp 30)), (some (27, true))⟩, ⟨(some 32), (.bin .eql (.tmp 29) (.tmp 31)), (some (27, true))⟩, ⟨(some 33), (.pick (.tmp 27) (.tmp 32) (.const (.bool false))), none⟩, ⟨(some 34), (.move (.tmp 33)), none⟩, ⟨(some 35), (.faddr 4 (.tmp 2)), (some (34, true))⟩, ⟨(some 36), (.load1 (.tmp 35)), (some (34, true))⟩, ⟨(some 37), (.faddr 4 (.tmp 3)), (some (34, true))⟩, ⟨(some 38), (.load1 (.tmp 37)), (some (34, true))⟩, ⟨(some 39), (.bin .eql (.tmp 36) (.tmp 38)), (some (34, true))⟩, ⟨(some 40), (.pick (.tmp 34) (.tmp 39) (.const (.bool false))), none⟩, ⟨(some 41), (.move (.tmp 40)), none⟩, ⟨(some 42), (.faddr 5 (.tmp 2)), (some (41, true))⟩, ⟨(some 43), (.load1 (.tmp 42)), (some (41, true))⟩, ⟨(some 44), (.faddr 5 (.tmp 3)), (some (41, true))⟩, ⟨(some 45), (.load1 (.tmp 44)), (some (41, true))⟩, ⟨(some 46), (.bin .eql (.tmp 43) (.tmp 45)), (some (41, true))⟩, ⟨(some 47), (.pick (.tmp 41) (.tmp 46) (.const (.bool false))), none⟩, ⟨(some 48), (.move (.tmp 47)), none⟩, ⟨(some 49), (.faddr 6 (.tmp 2)), (some (48, true))⟩, ⟨(some 50), (.load1 (.tmp 49)), (some (48, true))⟩, ⟨(some 51), (.faddr 6 (.tmp 3)), (some (48, true))⟩, ⟨(some 52), (.load1 (.tmp 51)), (some (48, true))⟩, ⟨(some 53), (.bin .eql (.tmp 50) (.tmp 52)), (some (48, true))⟩, ⟨(some 54), (.pick (.tmp 48) (.tmp 53) (.const (.bool false))), none⟩, ⟨(some 5), (.assign (.tmp 54)), none⟩]) (.seq (.seq (.ops [⟨(some 55), (.move (.tmp 5)), none⟩, ⟨(some 56), (.un .not (.tmp 55)), none⟩, ⟨(some 57), (.move (.tmp 56)), none⟩, ⟨(some 58), (.faddr 7 (.tmp 2)), (some (57, false))⟩, ⟨(some 59), (.load1 (.tmp 58)), (some (57, false))⟩, ⟨(some 60), (.faddr 7 (.tmp 3)), (some (57, false))⟩, ⟨(some 61), (.load1 (.tmp 60)), (some (57, false))⟩, ⟨(some 62), (.call 21 [(.tmp 59), (.tmp 61)]), (some (57, false))⟩, ⟨(some 63), (.un .not (.tmp 62)), (some (57, false))⟩, ⟨(some 64), (.pick (.tmp 57) (.const (.bool true)) (.tmp 63)), none⟩, ⟨(some 65), (.move (.tmp 64)), none⟩, ⟨(some 66), (.faddr 9 (.tmp 2)), (some (65, false))⟩, ⟨(some 67), (.load1 (.tmp 66)), (some (65, false))⟩, ⟨(some 68), (.faddr 9 (.tmp 3)), (some (65, false))⟩, ⟨(some 69), (.load1 (.tmp 68)), (some (65, false))⟩, ⟨(some 70), (.call 8 [(.tmp 67), (.tmp 69)]), (some (65, false))⟩, ⟨(some 71), (.un .not (.tmp 70)), (some (65, false))⟩, ⟨(some 72), (.pick (.tmp 65) (.const (.bool true)) (.tmp 71)), none⟩, ⟨(some 73), (.move (.tmp 72)), none⟩, ⟨(some 74), (.faddr 8 (.tmp 2)), (some (73, false))⟩, ⟨(some 75), (.load1 (.tmp 74)), (some (73, false))⟩, ⟨(some 76), (.lenL (.tmp 75)), (some (73, false))⟩, ⟨(some 77), (.faddr 8 (.tmp 3)), (some (73, false))⟩, ⟨(some 78), (.load1 (.tmp 77)), (some (73, false))⟩, ⟨(some 79), (.lenL (.tmp 78)), (some (73, false))⟩, ⟨(some 80), (.bin .neq (.tmp 76) (.tmp 79)), (some (73, false))⟩, ⟨(some 81), (.pick (.tmp 73) (.const (.bool true)) (.tmp 80)), none⟩, ⟨(some 82), (.move (.tmp 81)), none⟩, ⟨(some 83), (.faddr 10 (.tmp 2)), (some (82, false))⟩, ⟨(some 84), (.load1 (.tmp 83)), (some (82, false))⟩, ⟨(some 85), (.lenL (.tmp 84)), (some (82, false))⟩, ⟨(some 86), (.faddr 10 (.tmp 3)), (some (82, false))⟩, ⟨(some 87), (.load1 (.tmp 86)), (some (82, false))⟩, ⟨(some 88), (.lenL (.tmp 87)), (some (82, false))⟩, ⟨(some 89), (.bin .neq (.tmp 85) (.tmp 88)), (some (82, false))⟩, ⟨(some 90), (.pick (.tmp 82) (.const (.bool true)) (.tmp 89)), none⟩]) (.cond (.tmp 90) (.seq (.ops [⟨(some 4), (.assign (.const (.bool false))), none⟩]) .ret) .skip)) (.seq (.seq (.ops [⟨(some 6), (.assign (.const (.int .i64 0))), none⟩]) (.block 0 (.loop (.seq (.seq (.ops [⟨(some 91), (.move (.tmp 6)), none⟩, ⟨(some 92), (.faddr 8 (.tmp 2)), none⟩, ⟨(some 93), (.load1 (.tmp 92)), none⟩, ⟨(some 94), (.lenL (.tmp 93)), none⟩, ⟨(some 95), (.bin .lss (.tmp 91) (.tmp 94)), none⟩]) (.cond (.tmp 95) .skip (.exit 0))) (.seq (.block 1 (.seq (.draws (.take ⟨(some 98), (.faddr 8 (.tmp 2)), none⟩ (.take ⟨(some 99), (.load1 (.tmp 98)), none⟩ (.take ⟨(some 100), (.move (.tmp 6)), none⟩ (.take ⟨(some 101), (.iaddr 7 (.tmp 99) (.tmp 100)), none⟩ (.take ⟨(some 102), (.loadN 7 (.tmp 101)), none⟩ (.take ⟨(some 103), (.faddr 8 (.tmp 3)), none⟩ (.take ⟨(some 104), (.load1 (.tmp 103)), none⟩ (.take ⟨(some 105), (.move (.tmp 6)), none⟩ (.take ⟨(some 106), (.iaddr 7 (.tmp 104) (.tmp 105)), none⟩ (.take ⟨(some 107), (.loadN 7 (.tmp 106)), none⟩ (.take ⟨(some 108), (.aeq true [2, 1, 1, 1, 1, 1, 1] (.tmp 102) (.tmp 107)), none⟩ .done)))))))))))) (.cond (.tmp 108) (.seq (.ops [⟨(some 4), (.assign (.const (.bool false))), none⟩]) .ret) .skip))) (.ops [⟨(some 96), (.move (.tmp 6)), none⟩, ⟨(some 97), (.bin .add (.tmp 96) (.const (.int .i64 1))), none⟩, ⟨(some 6), (.assign (.tmp 97)), none⟩])))))) (.seq (.seq (.ops [⟨(some 7), (.assign (.const (.int .i64 0))), none⟩]) (.block 2 (.loop (.seq (.seq (.ops [⟨(some 109), (.move (.tmp 7)), none⟩, ⟨(some 110), (.faddr 10 (.tmp 2)), none⟩, ⟨(some 111), (.load1 (.tmp 110)), none⟩, ⟨(some 112), (.lenL (.tmp 111)), none⟩, ⟨(some 113), (.bin .lss (.tmp 109) (.tmp 112)), none⟩]) (.cond (.tmp 113) .skip (.exit 2))) (.seq (.block 3 (.seq (.draws (.take ⟨(some 116), (.faddr 10 (.tmp 2)), none⟩ (.take ⟨(some 117), (.load1 (.tmp 116)), none⟩ (.take ⟨(some 118), (.move (.tmp 7)), none⟩ (.take ⟨(some 119), (.iaddr 2 (.tmp 117) (.tmp 118)), none⟩ (.take ⟨(some 120), (.loadN 2 (.tmp 119)), none⟩ (.take ⟨(some 121), (.faddr 10 (.tmp 3)), none⟩ (.take ⟨(some 122), (.load1 (.tmp 121)), none⟩ (.take ⟨(some 123), (.move (.tmp 7)), none⟩ (.take ⟨(some 124), (.iaddr 2 (.tmp 122) (.tmp 123)), none⟩ (.take ⟨(some 125), (.loadN 2 (.tmp 124)), none⟩ (.take ⟨(some 126), (.aeq true [1, 2] (.tmp 120) (.tmp 125)), none⟩ .done)))))))))))) (.cond (.tmp 126) (.seq (.ops [⟨(some 4), (.assign (.const (.bool false))), none⟩]) .ret) .skip))) (.ops [⟨(some 114), (.move (.tmp 7)), none⟩, ⟨(some 115), (.bin .add (.tmp 114) (.const (.int .i64 1))), none⟩, ⟨(some 7), (.assign (.tmp 115)), none⟩])))))) (.seq (.ops [⟨(some 4), (.assign (.const (.bool true))), none⟩]) .ret)))))), [(.move (.tmp 4))]⟩
theorem k10 : cfun Try.prog 10 = some c10 := by kernel_rfl
end Go.Proofs.Ytanjmfcafalphaa.Ax
/- The document's answers for back, over values without memory: kinds, checks, what is the same. -/
namespace Go.Proofs.Ytanjmfcafalphaa.Ax
open Go.RowKit Go By Nm Sc Dg
set_option linter.unusedSimpArgs false
set_option linter.unusedVariables false
set_option maxRecDepth 10000

/-! ### Columns, fields -/
def rcolB (c : Co) : Bool := cleanB c.name && (betB 0 4294967295 c.table && (betB 0 65535 c.attr && (betB 0 4294967295 c.oid && (betB (-32768) 32767 c.size && (betB (-2147483648) 2147483647 c.mod && betB 0 65535 c.format)))))
theorem eq_len {α : Type} [BEq α] [LawfulBEq α] {xs ys : List α} (h : xs.length ≠ ys.length) : (xs == ys) = false := by
  rw [← eqL_beq]; exact eqL_len h
theorem eq_all {α : Type} [BEq α] [LawfulBEq α] {xs ys : List α} (hl : xs.length = ys.length) (h : ∀ i (h1 : i < xs.length) (h2 : i < ys.length), (xs[i] == ys[i]) = true) : (xs == ys) = true := by
  rw [← eqL_beq]; exact (eqL_iff _ xs ys).2 ⟨hl, h⟩
theorem eq_one {α : Type} [BEq α] [LawfulBEq α] {xs ys : List α} {i : Nat} (h1 : i < xs.length) (h2 : i < ys.length) (h : (xs[i] == ys[i]) = false) : (xs == ys) = false := by
  rw [← eqL_beq]; exact eqL_no (i := i) h1 h2 h
theorem eq_upto {α : Type} [BEq α] {xs ys : List α} {j : Nat} (hp : ∀ i (h1 : i < xs.length) (h2 : i < ys.length), i < j → (xs[i] == ys[i]) = true) (hx : j < xs.length) (hy : j < ys.length) (h : (xs[j] == ys[j]) = true) : ∀ i (h1 : i < xs.length) (h2 : i < ys.length), i < j + 1 → (xs[i] == ys[i]) = true := fun i h1 h2 h3 => by
  rcases Nat.lt_or_ge i j with h4 | h4
  · exact hp i h1 h2 h4
  · have : i = j := by omega
    subst this; exact h
theorem eqCo (x y : Co) : eqCs [2, 1, 1, 1, 1, 1, 1] (coC x) (coC y) = some (sameCo x y) := by simp [coC, sameCo]
theorem eqFi (x y : Fi) : eqCs [1, 2] (fiC x) (fiC y) = some (sameFi x y) := by simp [fiC, sameFi]
theorem rbsame_c (a b : Bk) (ha : BkFit a) (h : List (List AV)) : Contract Try.prog 10 [.agg (bkC a), .agg (bkC b)] h (.v (.bool (sameB a b))) h [] := by
  obtain ⟨q1, q2, q3, q4, _⟩ := ha
  refine contract_of k10 mixed (by simp [c10]) fun hh hargs => ?_
  unfold sameB
  cases p0 : a.kind == b.kind with
  | false => simp [c10, hh, p0]
  | true =>
  cases p1 : a.status == b.status with
  | false => simp [c10, hh, p0, p1]
  | true =>
  cases p2 : a.tag == b.tag with
  | false => simp [c10, hh, p0, p1, p2]
  | true =>
  cases p3 : a.name == b.name with
  | false => simp [c10, hh, p0, p1, p2, p3]
  | true =>
  cases p4 : a.value == b.value with
  | false => simp [c10, hh, p0, p1, p2, p3, p4]
  | true =>
  cases p5 : a.n == b.n with
  | false => simp [c10, hh, p0, p1, p2, p3, p4, p5]
  | true =>
  cases p6 : a.m == b.m with
  | false => simp [c10, hh, p0, p1, p2, p3, p4, p5, p6]
  | true =>
  simp [c10, p0, p1, p2, p3, p4, p5, p6]
  refine xcall_self (by simp) (rints_c _ _ q1 _) ?_
  cases p7 : a.oids == b.oids with
  | false => simp [hh]
  | true =>
  simp
  refine xcall_self (by simp) (rcells_c _ _ q3 _) ?_
  cases p9 : a.row == b.row with
  | false => simp [hh]
  | true =>
  by_cases l1 : a.cols.length = b.cols.length
  · by_cases l2 : a.fields.length = b.fields.length
    · simp [l1, l2]
      refine xloop_ok (D := Nat) (fun j => ⟨[(2, .box h.length 0), (3, .box (h.length + 1) 0), (6, .v (.int .i64 j))], [], h ++ [bkC a, bkC b], []⟩) (fun j => j ≤ a.cols.length ∧ ∀ i (h1 : i < a.cols.length) (h2 : i < b.cols.length), i < j → (a.cols[i] == b.cols[i]) = true) (fun j => a.cols.length - j) 0 ⟨by omega, fun i h1 h2 h3 => by omega⟩ ?_ ?_
      · simp [Leq, hh]
      · rintro j ⟨hj, hp⟩
        by_cases hlt : j < b.cols.length
        · have hlt' : j < a.cols.length := by omega
          have hw : IntKind.i64.wrap ((j : Int) + 1) = (j : Int) + 1 := wrap64 (by omega) (by omega)
          have no : (a.cols[j] == b.cols[j]) = false → (a.cols == b.cols) = false := fun e => eq_one hlt' hlt e
          have yes := eq_upto hp hlt' hlt
          simp [hlt, hlt', eqCo]
          rw [← sameCo_eq] at no yes
          refine xwp_cond_of (!(sameCo a.cols[j] b.cols[j])) (by simp) (fun ht => ?_) (fun hf' => ?_)
          · simp at ht
            simp [hh, no ht]
          · simp at hf'
            simp [hw]
            refine ⟨j + 1, ⟨by omega, fun i h1 h2 h3 => by simpa using yes hf' i h1 h2 h3⟩, by omega, ?_⟩
            simp [Leq, hh]
        · have ec : (a.cols == b.cols) = true := eq_all l1 fun i h1 h2 => hp i h1 h2 (by omega)
          have hlt' : ¬ j < a.cols.length := by omega
          simp [hlt, hlt', ec]
          refine xloop_ok (D := Nat) (fun j => ⟨[(2, .box h.length 0), (3, .box (h.length + 1) 0), (7, .v (.int .i64 j))], [], h ++ [bkC a, bkC b], []⟩) (fun j => j ≤ a.fields.length ∧ ∀ i (h1 : i < a.fields.length) (h2 : i < b.fields.length), i < j → (a.fields[i] == b.fields[i]) = true) (fun j => a.fields.length - j) 0 ⟨by omega, fun i h1 h2 h3 => by omega⟩ ?_ ?_
          · simp [Leq, hh]
          · rintro j ⟨hj, hp⟩
            by_cases hlt : j < b.fields.length
            · have hlt' : j < a.fields.length := by omega
              have hw : IntKind.i64.wrap ((j : Int) + 1) = (j : Int) + 1 := wrap64 (by omega) (by omega)
              have no : (a.fields[j] == b.fields[j]) = false → (a.fields == b.fields) = false := fun e => eq_one hlt' hlt e
              have yes := eq_upto hp hlt' hlt
              simp [hlt, hlt', eqFi]
              rw [← sameFi_eq] at no yes
              refine xwp_cond_of (!(sameFi a.fields[j] b.fields[j])) (by simp) (fun ht => ?_) (fun hf' => ?_)
              · simp at ht
                simp [hh, no ht]
              · simp at hf'
                simp [hw]
                refine ⟨j + 1, ⟨by omega, fun i h1 h2 h3 => by simpa using yes hf' i h1 h2 h3⟩, by omega, ?_⟩
                simp [Leq, hh]
            · have ef : (a.fields == b.fields) = true := eq_all l2 fun i h1 h2 => hp i h1 h2 (by omega)
              have hlt' : ¬ j < a.fields.length := by omega
              simp [hlt, hlt', hh, ef]
    · have hne : ((a.fields.length : Int) != b.fields.length) = true := by simp; omega
      have hx := eq_len l2
      simp [l1, hne, hh, hx]
  · have hne : ((a.cols.length : Int) != b.cols.length) = true := by simp; omega
    have hx := eq_len l1
    simp [hne, hh, hx]

/-! ### Checks -/
def rbnums (m : Bk) : Bool := betB 0 4294967295 m.n && (betB 0 4294967295 m.m && (decide (m.oids.length ≤ 65535) && m.oids.all (betB 0 4294967295)))
def rcheckB (m : Bk) : Int :=
  if kindB m.kind = false then 9
  else if bcleanB m && (rbnums m && (rstatB m && ((decide (m.cols.length ≤ 65535) && m.cols.all rcolB) && ((decide (m.fields.length ≤ 65535) && m.fields.all fieldB) && ((decide (m.row.length ≤ 65535) && m.row.all cellB) && sameB m (saidB m)))))) then 0 else 1
/-- Its texts are no longer than these. -/
def BkShort (m : Bk) : Prop := (m.tag.length ≤ 1000000 ∧ m.name.length ≤ 1000000 ∧ m.value.length ≤ 1000000) ∧ (∀ c ∈ m.cols, c.name.length ≤ 1000000) ∧ ∀ c ∈ m.fields, c.text.length ≤ 1000000
end Go.Proofs.Ytanjmfcafalphaa.Ax
/- The statements of cols, over values without memory. -/
namespace Go.Proofs.Ytanjmfcafalphaa.Ax
open Go.RowKit Go By Nm Sc Dg
set_option linter.unusedSimpArgs false
set_option linter.unusedVariables false
set_option maxRecDepth 10000

theorem sh_cellR : ShapeR Try.prog 43 cellC (fun x => True ∧ x.2.length ≤ reachBytes) :=
  ShapeR.map (shapeR_struct Try.underlying43 (by kernel_rfl) (shapeR_cons (k := 1) rfl (by kernel_rfl) sh_bool.reach (by kernel_rfl) (shapeR_one (k := 1) rfl (by kernel_rfl) (shapeR_bytes Try.underlying41 (by kernel_rfl) (of_decide_eq_true (by kernel_rfl)) Try.underlying5)))) (fun p => (p.1, p.2)) (fun _ => rfl) (fun _ h => h)
theorem sh_cellRL : ShapeR Try.prog 22 (fun l : List Cl => [.sl 2 (enc cellC l) none .no]) (fun l => l.length ≤ reachBytes ∧ ∀ x ∈ l, True ∧ x.2.length ≤ reachBytes) := shapeR_slice Try.underlying22 (by kernel_rfl) (by decide) (of_decide_eq_true (by kernel_rfl)) sh_cellR (fun _ => rfl)
theorem tens (k : Nat) (hk : k < 10) : Dg.textL (k : Int) = [UInt8.ofNat (48 + k)] := by
  unfold Dg.textL
  rw [if_neg (by omega), Int.toNat_natCast]
  exact Dg.digsN_small hk
theorem textL_clean (k : Nat) : cleanB (Dg.textL (k : Int)) = true := by
  unfold Dg.textL cleanB
  rw [if_neg (by omega), Int.toNat_natCast]
  have h := Dg.digsN_all k
  simp only [Bool.not_eq_true', List.contains_eq_mem, decide_eq_false_iff_not]
  intro h0
  have := List.all_eq_true.1 h 0 h0
  revert this; decide
theorem rowsK_get (k j : Nat) (hj : j < (rowsK k).length) : (rowsK k)[j] = rowK ((j : Int) + 1) := by
  have : (rowsK k)[j]? = some (rowK ((j : Int) + 1)) := by
    rw [rowsK_len] at hj
    unfold rowsK
    rw [List.getElem?_map, List.getElem?_range hj]; rfl
  exact (List.getElem?_eq_some_iff.1 this).2
theorem kawake_c (h : List (List AV)) : Contract Try.prog 5 [] h (.v (.bool true)) h [] := by
  have t1 := tens 1 (by omega)
  have t2 := tens 2 (by omega)
  have e1 : rowsK (heldI 2).toNat = [[(false, [49])], [(false, [50])]] := by
    show rowsK 2 = _
    unfold rowsK rowK
    show [[(false, Dg.textL ((0 : Nat) + 1))], [(false, Dg.textL ((1 : Nat) + 1))]] = _
    simp only [show (((0 : Nat) : Int) + 1) = ((1 : Nat) : Int) by rfl, show (((1 : Nat) : Int) + 1) = ((2 : Nat) : Int) by rfl, t1, t2]
    rfl
  have e2 : Dg.textL 2 = [50] := t2
  have eb : unbytes [[AV.v (.int .u8 50)]] = some [50] := unbytes_bytesE [50]
  have e3 : (colsK (heldI 3).toNat).length = 3 := by rw [colsK_len]; rfl
  refine contract_of k5 mixed (by simp [c5]) fun hh hargs => ?_
  simp [c5]
  refine xcall_self (by simp) (krows_c 2 _) ?_
  rw [e1]
  simp [rowKC_mk, cellC, eb]
  refine xcall_self (by simp) (ktag_c 2 (by omega) (by omega) _) ?_
  rw [e2]
  simp
  refine xcall_self (by simp) (kcols_c 3 _) ?_
  simp [e3, hh]
def descK (n : Int) : Bk := ⟨84, 0, [], [], [], 0, 0, [], colsK (heldI n).toNat, [], []⟩
theorem descK_fit (n : Int) : BkFit (descK n) := by
  obtain ⟨h0, h1⟩ := heldI_range n
  have := colsK_len (heldI n).toNat
  unfold BkFit descK
  refine ⟨by simp, ?_, by simp, by simp, by simp⟩
  show (colsK (heldI n).toNat).length ≤ _
  omega
def rowmK (l : List Cl) : Bk := ⟨68, 0, [], [], [], 0, 0, [], [], l, []⟩
theorem kctell_c (n : Int) (row : List Cl) (hn : (Lit.int .i64 n).wf = true) (hr : row.length ≤ reachBytes ∧ ∀ c ∈ row, True ∧ c.2.length ≤ reachBytes) :
    Contract Try.prog 3 [.v (.int .i64 n), .sl 2 (enc cellC row) none .no] [] (.v (.bool true)) [] [] := by
  obtain ⟨n1, n2⟩ := int_of_wf hn
  have hrb : reachBytes = 140737488351232 := by decide
  rw [hrb] at hr
  obtain ⟨hr1, hr2⟩ := hr
  obtain ⟨hk0, hk1⟩ := heldI_range n
  obtain ⟨k, hk⟩ : ∃ k : Nat, heldI n = k := ⟨(heldI n).toNat, by omega⟩
  have hlen := rowsK_len k
  refine contract_of k3 mixed (by simp [c3]) fun hh hargs => ?_
  by_cases hl : (50 : Int) < row.length
  · simp [c3, hl]
    refine xcall_self (by simp) (kawake_c _) ?_
    simp
  · simp [c3, hl]
    refine xcall_self (by simp) (krows_c n _) ?_
    rw [hk, Int.toNat_natCast]
    simp
    refine xcall_self (by simp) (rkrows_c n _) ?_
    rw [hk, Int.toNat_natCast]
    simp
    refine xloop_ok (D := Nat) (fun j => ⟨[(0, .v (.int .i64 n)), (1, .sl 2 (enc cellC row) none .no), (5, .sl 1 (enc rowKC (rowsK k)) none .no), (6, .sl 1 (enc rowKC (rowsK k)) none .no), (23, .v (.int .i64 k)), (24, .v (.int .i64 j))], [], [], []⟩) (fun j => j ≤ k) (fun j => k - j) 0 (by simp) ?_ ?_
    · simp [Leq, hlen]
    · intro j hj
      by_cases hlt : j < k
      · have hw : IntKind.i64.wrap ((j : Int) + 1) = (j : Int) + 1 := wrap64 (by omega) (by omega)
        have hj2 : j < (rowsK k).length := by omega
        have hg := rowsK_get k j hj2
        simp [hlt, hj2, hg, rowKC_mk]
        refine xcall_self (by simp) (rcells_c (rowK ((j : Int) + 1)) (rowK ((j : Int) + 1)) (by simp [rowK]) _) ?_
        simp [hw]
        refine ⟨j + 1, by omega, by omega, ?_⟩
        simp [Leq]
      · have : j = k := by omega
        subst this
        have hfit := descK_fit n
        simp
        refine xcall_self (by simp) (rkcols_c n _) ?_
        simp
        refine xcall_self (by simp) (kdesc_c n _) ?_
        simp
        refine xcall_of (rbsame_c (descK n) (descK n) hfit _) (by simp [bkC_mk, descK]) (by simp) ?_
        rw [sameB_refl]
        simp
        refine xcall_self (by simp) (kcols_c n _) ?_
        simp
        refine xcall_of (rbsame_c (descK n) (descK n) hfit _) (by simp [bkC_mk, descK]) (by simp) ?_
        rw [sameB_refl]
        simp
        refine xcall_self (by simp) (krowm_c row (by omega) (fun c hc => (hr2 c hc).2) _) ?_
        simp
        refine xcall_of (rbsame_c (rowmK row) (rowmK row) (by unfold BkFit rowmK; exact ⟨by simp, by simp, by show row.length ≤ _; omega, by simp, fun c hc => by have := (hr2 c hc).2; omega⟩) _) (by simp [bkC_mk, rowmK]) (by simp) ?_
        rw [sameB_refl]
        simp
        refine xcall_self (by simp) (ktag_c n n1 n2 _) ?_
        simp
        refine xcall_self (by simp) (rktag_c n n1 n2 _) ?_
        simp
        refine xcall_self (by simp) (kawake_c _) ?_
        simp
/-! ### What is described may be said -/
theorem colK_ok (i : Nat) : colB (colK (i : Int)) = true := by
  have h1 : cleanB (99 :: Dg.textL (i : Int)) = true := by
    have := textL_clean i
    unfold cleanB at this ⊢
    simpa using this
  unfold colB colK
  simp only [h1, Bool.true_and]
  decide
theorem descK_check (n : Int) : checkB (descK n) = 0 := by
  obtain ⟨h0, h1⟩ := heldI_range n
  have hl := colsK_len (heldI n).toNat
  have hall : (colsK (heldI n).toNat).all colB = true := List.all_eq_true.2 fun c hc => by
    unfold colsK at hc
    obtain ⟨j, _, rfl⟩ := List.mem_map.1 hc
    exact colK_ok (j + 1)
  have hs : saidB (descK n) = descK n := rfl
  have hfew : fewB (descK n) = true := by
    unfold fewB descK
    simp only [decide_eq_true_eq]
    refine ⟨by simp, ?_, by simp, by simp⟩
    omega
  have hb : blistsB (descK n) = true := by
    unfold blistsB
    rw [hfew]
    show (true && (([] : List Int).all (unsB 4) && (([] : List Cl).all cellB && ((colsK (heldI n).toNat).all colB && ([] : List Fi).all fieldB)))) = true
    rw [hall]; rfl
  have hc : bcleanB (descK n) = true := (rfl : bcleanB ⟨84, 0, [], [], [], 0, 0, [], [], [], []⟩ = true)
  have hn : bnumB (descK n) = true := (by decide : bnumB ⟨84, 0, [], [], [], 0, 0, [], [], [], []⟩ = true)
  have hr : rstatB (descK n) = true := (by decide : rstatB ⟨84, 0, [], [], [], 0, 0, [], [], [], []⟩ = true)
  have hk : kindB (descK n).kind = true := (by decide : kindB 84 = true)
  unfold checkB
  rw [hk, hr, hb, hc, hn, hs, sameB_refl]; rfl
theorem rowmK_fit (i : Nat) (hi : i ≤ 1000000) : BkFit (rowmK (rowK (i : Int))) := by
  have := dtext_len (i : Int) (by omega) (by omega)
  unfold BkFit rowmK rowK
  refine ⟨by simp, by simp, by simp, by simp, fun c hc => ?_⟩
  rw [List.mem_singleton.1 hc]
  show (Dg.textL (i : Int)).length ≤ _
  omega
theorem rowmK_check (i : Nat) (hi : i ≤ 1000000) : checkB (rowmK (rowK (i : Int))) = 0 := by
  have hl := dtext_len (i : Int) (by omega) (by omega)
  have hs : saidB (rowmK (rowK (i : Int))) = rowmK (rowK (i : Int)) := rfl
  have hcell : cellB (false, Dg.textL (i : Int)) = true := by
    unfold cellB
    simp; omega
  have hfew : fewB (rowmK (rowK (i : Int))) = true := (by decide : fewB ⟨68, 0, [], [], [], 0, 0, [], [], [(false, [])], []⟩ = true)
  have hb : blistsB (rowmK (rowK (i : Int))) = true := by
    unfold blistsB
    rw [hfew]
    show (true && (([] : List Int).all (unsB 4) && ((cellB (false, Dg.textL (i : Int)) && true) && (([] : List Co).all colB && ([] : List Fi).all fieldB)))) = true
    rw [hcell]; rfl
  have hc : bcleanB (rowmK (rowK (i : Int))) = true := (rfl : bcleanB ⟨68, 0, [], [], [], 0, 0, [], [], [], []⟩ = true)
  have hn : bnumB (rowmK (rowK (i : Int))) = true := (by decide : bnumB ⟨68, 0, [], [], [], 0, 0, [], [], [], []⟩ = true)
  have hr : rstatB (rowmK (rowK (i : Int))) = true := (by decide : rstatB ⟨68, 0, [], [], [], 0, 0, [], [], [], []⟩ = true)
  have hk : kindB (rowmK (rowK (i : Int))).kind = true := (by decide : kindB 68 = true)
  unfold checkB
  rw [hk, hr, hb, hc, hn, hs, sameB_refl]; rfl
theorem kcmay_c (n : Int) (hn : (Lit.int .u16 n).wf = true) : Contract Try.prog 4 [.v (.int .u16 n)] [] (.v (.bool true)) [] [] := by
  have hn2 : 0 ≤ n ∧ n < 65536 := by
    simp [Lit.wf, IntKind.min, IntKind.max, IntKind.signed, IntKind.bits] at hn
    omega
  obtain ⟨k, hk, hk2⟩ : ∃ k : Nat, minZ (IntKind.i64.wrap n) [1000] = k ∧ k ≤ 1000 := by
    rw [wrap64 (by omega) (by omega)]
    unfold minZ
    simp only [List.foldl_cons, List.foldl_nil]
    split
    · exact ⟨1000, rfl, by omega⟩
    · exact ⟨n.toNat, by omega, by omega⟩
  have hheld : (heldI (k : Int)).toNat = k := by
    unfold heldI
    rw [if_neg (by omega), if_neg (by omega)]; omega
  have hlr := rowsK_len k
  have hlc := colsK_len k
  refine contract_of k4 mixed (by simp [c4]) fun hh hargs => ?_
  simp [c4, hk]
  refine xcall_self (by simp) (kdesc_c _ _) ?_
  simp
  refine xcall_self (by simp) (bcheck_c (descK k) (descK_fit _) _) ?_
  rw [descK_check]
  simp
  refine xcall_self (by simp) (krows_c _ _) ?_
  rw [hheld]
  simp [hlr]
  refine xcall_self (by simp) (kcols_c _ _) ?_
  rw [hheld]
  simp [hlc]
  refine xcall_self (by simp) (krows_c _ _) ?_
  rw [hheld]
  simp
  refine xloop_ok (D := Nat) (fun j => ⟨[(28, .sl 1 (enc rowKC (rowsK k)) none .no), (29, .v (.int .i64 k)), (30, .v (.int .i64 j))], [], [], []⟩) (fun j => j ≤ k) (fun j => k - j) 0 (by simp) ?_ ?_
  · simp [Leq, hlr]
  · intro j hj
    by_cases hlt : j < k
    · have hw : IntKind.i64.wrap ((j : Int) + 1) = (j : Int) + 1 := wrap64 (by omega) (by omega)
      have hj2 : j < (rowsK k).length := by omega
      have hg := rowsK_get k j hj2
      have hl1 : (rowK ((j : Int) + 1)).length = 1 := rfl
      have hdl := dtext_len ((j : Int) + 1) (by omega) (by omega)
      have hc := rowmK_check (j + 1) (by omega)
      have hf := rowmK_fit (j + 1) (by omega)
      rw [show ((j + 1 : Nat) : Int) = (j : Int) + 1 by omega] at hc hf
      simp [hlt, hj2, hg, rowKC_mk, hl1]
      refine xcall_self (by simp) (krowm_c (rowK ((j : Int) + 1)) (by rw [hl1]; omega) (fun c hc => by rw [List.mem_singleton.1 hc]; show (Dg.textL ((j : Int) + 1)).length ≤ 140737488351232; omega) _) ?_
      simp
      refine xcall_self (by simp) (bcheck_c (rowmK (rowK ((j : Int) + 1))) hf _) ?_
      rw [hc]
      simp [rowK, cellC, hw]
      refine xcall_self (by simp) (drtext_c _ (by omega) (by omega) _) ?_
      simp [hw]
      refine ⟨j + 1, by omega, by omega, ?_⟩
      simp [Leq]
    · have : j = k := by omega
      subst this
      simp
      refine xcall_self (by simp) (kawake_c _) ?_
      simp
end Go.Proofs.Ytanjmfcafalphaa.Ax
namespace Go.Proofs.Ytanjmfcafalphaa.colsTell
open Go.ChangeShapes Go.WideShapes Go.ChangeAt Go.RowKit
open Go.ChangeMaps (open_string shut_string)
set_option linter.unusedVariables false

theorem own : ownKnob Try.prog.godebug = none := by kernel_rfl
theorem laidOut : laidOutB Try.prog = true := by kernel_rfl

set_option maxRecDepth 100000 in
theorem lifted (os : Os) (started : os.Started) (H : Type) (enc : TypeId × Value → H) :
    ReturnsInHanded {} Try.checked os 3 .any (Rows.colsTellSpec.pre6 enc Try.prog Try.f3 Rows.colsTellRow.domain false) (Rows.colsTellSpec.post enc Try.prog Try.f3 false true false false) := by
  refine returnsInHanded_of_change_sized (C := Try.checked) own started (by kernel_rfl) Try.func3
    (ChangeSpec.witness6 (enc := enc) (C := Try.checked) false ⟨#[], #[.int .i64 0, .slice none 0 0], []⟩ 8 (by kernel_rfl) (by kernel_rfl) (by kernel_rfl) (by kernel_rfl)) ?_
  intro W base args ds gs before hval0 hW hcnd hreach _
  have hval : ∀ (j : Nat) t v, Try.f3.params[j]? = some t → args[j]? = some v → Value.okWide Try.prog W .any base t v := hval0
  have hW' := hW
  obtain ⟨p, q, hA0, hV, rfl, hfz, hnd⟩ := hW
  have hA : DataW.TrodAll enc Try.prog W 0 (fun _ => true) true Try.f3.params.toList args.toList ds p := hA0
  rw [Try.params3] at hA hval
  obtain ⟨v0, vs0, d0, ds0, p0, q0, hargs, rfl, rfl, h0, r0⟩ := trodAll_cons hA
  obtain ⟨v1, vs1, d1, ds1, p1, q1, rfl, rfl, rfl, h1, r1⟩ := trodAll_cons r0
  obtain ⟨rfl, rfl, rfl⟩ := trodAll_nil r1
  obtain rfl : args = #[v0, v1] := by cases args; simp_all
  obtain ⟨rfl, rfl⟩ := trodVars_none hV
  have k0 := h0
  have lt0 : ∀ x ∈ p0, x.block < W.heap.size := by obtain ⟨m, hm⟩ := k0; exact DataW.trod_lt m _ _ _ hm
  obtain ⟨a0, ok0, s0⟩ := Ax.arg_int Try.underlying3 (hval 0 3 v0 rfl rfl) h0
  have k1 := h1
  have lt1 : ∀ x ∈ p1, x.block < W.heap.size := by obtain ⟨m, hm⟩ := k1; exact DataW.trod_lt m _ _ _ hm
  obtain ⟨a1, ok1, s1⟩ := Ax.argR_slice Try.underlying22 Ax.sh_cellRL (hval 1 22 v1 rfl rfl) h1 (Ax.reached_of hreach (j := 1) rfl rfl)
  clear hA0 hval0 hreach
  refine (Ax.law_walk (w := W) (Ax.dom_any W) (Ax.kctell_c a0 a1 ok0 ok1) (by simp) (.cons s0 (.cons s1 .nil))).mono fun e W' ⟨he, bel⟩ => ?_
  subst he
  exact ⟨_, rfl, _, _, _, [], _, [], hW', trodAll_mk1 (shut_bool Try.underlying4 _), (trodAll_cons_mk (Below.trod laidOut (by kernel_rfl) (of_decide_eq_true (by kernel_rfl)) k0 bel lt0) (trodAll_cons_mk (Below.trod laidOut (by kernel_rfl) (of_decide_eq_true (by kernel_rfl)) k1 bel lt1) trodAll_mk0)), rfl, bel.frame _, fun h => by cases h⟩

theorem over : Rows.colsTellRow.holds Try.pinned (OpenSpec.ofChange Rows.colsTellSpec) :=
  OpenClaim.holds_of_wide 3 Try.f3 rfl rfl rfl rfl rfl rfl rfl ⟨rfl, rfl, rfl, rfl, rfl⟩ rfl rfl rfl rfl rfl (by kernel_rfl) Try.func3 (by kernel_rfl)
    (of_decide_eq_true (by kernel_rfl)) (by unfold Func.isWrapper; first | (rw [if_pos (by decide +kernel)]; kernel_rfl) | (rw [if_neg (by decide +kernel)]; exact ⟨rfl, rfl⟩))
    (fun os started H enc _ => lifted os started H enc)

theorem proved : Rows.ColsTellSaid := over
#print axioms proved
end Go.Proofs.Ytanjmfcafalphaa.colsTell
