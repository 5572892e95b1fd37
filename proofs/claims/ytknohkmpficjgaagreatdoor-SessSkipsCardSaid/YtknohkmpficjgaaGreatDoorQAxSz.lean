import Derived.Test.YtknohkmpficjgaaGreatDoorQAxXr
import Derived.Test.YtknohkmpficjgaaGreatDoorRows
import Derived.Test.YtknohkmpficjgaaGreatDoorQAxKc0
import Derived.Test.YtknohkmpficjgaaGreatDoorQAxSy
set_option linter.unusedSimpArgs false
set_option linter.unusedVariables false
namespace Go.Proofs.YtknohkmpficjgaaGreatDoor.Ax
open Go.RowKit Go By
def c190 : XFun := ⟨9, (.seq (.ops [⟨(some 4), (.assign (.const (.bool false))), none⟩]) (.seq (.ops [⟨(some 5), (.move (.tmp 0)), none⟩, ⟨(some 6), (.move (.tmp 1)), none⟩, ⟨(some 7), (.call 213 [(.tmp 5), (.tmp 6)]), none⟩, ⟨(some 8), (.bin .geq (.tmp 7) (.const (.int .i64 0))), none⟩, ⟨(some 4), (.assign (.tmp 8)), none⟩]) .ret)), [(.move (.tmp 4))]⟩
theorem k190 : cfun Tryz.prog 190 = some c190 := by kernel_rfl
def c213 : XFun := ⟨19, (.seq (.ops [⟨(some 4), (.assign (.const (.int .i64 0))), none⟩]) (.seq (.seq (.ops [⟨(some 6), (.move (.tmp 0)), none⟩, ⟨(some 7), (.lenL (.tmp 6)), none⟩, ⟨(some 8), (.move (.const (.int .i64 0))), none⟩]) (.block 0 (.loop (.seq (.ops [⟨(some 9), (.bin .lss (.tmp 8) (.tmp 7)), none⟩]) (.seq (.cond (.tmp 9) .skip (.exit 0)) (.seq (.block 1 (.seq (.ops [⟨(some 10), (.move (.tmp 8)), none⟩, ⟨(some 5), (.assign (.tmp 10)), none⟩]) (.seq (.ops [⟨(some 11), (.move (.tmp 1)), none⟩, ⟨(some 12), (.move (.tmp 0)), none⟩, ⟨(some 13), (.move (.tmp 5)), none⟩, ⟨(some 14), (.iaddr 1 (.tmp 12) (.tmp 13)), none⟩, ⟨(some 15), (.load1 (.tmp 14)), none⟩, ⟨(some 16), (.bin .eql (.tmp 11) (.tmp 15)), none⟩]) (.cond (.tmp 16) (.seq (.ops [⟨(some 17), (.move (.tmp 5)), none⟩, ⟨(some 4), (.assign (.tmp 17)), none⟩]) .ret) .skip)))) (.ops [⟨(some 18), (.bin .add (.tmp 8) (.const (.int .i64 1))), none⟩, ⟨(some 8), (.move (.tmp 18)), none⟩]))))))) (.seq (.ops [⟨(some 4), (.assign (.const (.int .i64 (-1)))), none⟩]) .ret))), [(.move (.tmp 4))]⟩
theorem k213 : cfun Tryz.prog 213 = some c213 := by kernel_rfl
end Go.Proofs.YtknohkmpficjgaaGreatDoor.Ax
namespace Go.Proofs.YtknohkmpficjgaaGreatDoor.Ax
open Go.RowKit Go By
set_option maxRecDepth 10000
theorem nothas_take {L : List Int} {x : Int} {j : Nat} (hj : j < L.length) (h : x ∉ L.take j) (e : ¬ L[j] = x) : x ∉ L.take (j + 1) := by
 rw [List.take_succ_eq_append_getElem hj]
 intro hm
 rcases List.mem_append.1 hm with h1 | h1
 ·exact h h1
 ·exact e (List.mem_singleton.1 h1).symm
theorem jindex_c {h : List (List AV)} {L : List Int} (hl : L.length <= 1000000) (x : Int) : ∃ n : Int, Contract Tryz.prog 213 [.sl 1 (enc intC L) none .no, .v (.int .i64 x)] h (.v (.int .i64 n)) h [] /\ (decide (0 <= n) = L.contains x) := by
 refine ⟨if x ∈ L then (L.idxOf x : Int) else -1, ?_, ?_⟩
 ·refine contract_of k213 mixed (by simp [c213]) fun hh hargs => ?_
  simp [c213]
  refine xloop_ok (D := Nat) (fun j => ⟨[(0, .sl 1 (enc intC L) none .no), (1, .v (.int .i64 x)), (7, .v (.int .i64 (L.length : Int))), (8, .v (.int .i64 (j : Int)))], [], h, []⟩) (fun j => j <= L.length /\ x ∉ L.take j) (fun j => L.length - j) 0 ⟨by omega, by simp⟩ ?_ ?_
  ·simp [Leq, hh, leqH_take]
   done
  ·rintro j ⟨hj, hno⟩
   by_cases hlt : j < L.length
   ·have hw : IntKind.i64.wrap ((j : Int) + 1) = (j : Int) + 1 := wrap64 (by omega) (by omega)
    by_cases e : L[j] = x
    ·have hm : x ∈ L := e ▸ List.getElem_mem hlt
     have hi : L.idxOf x = j := by
      have hx := List.take_append_drop j L
      rw [<- hx, List.idxOf_append, if_neg hno, List.drop_eq_getElem_cons hlt, e, List.idxOf_cons_self, List.length_take]
      omega
     have e2 : x = L[j] := e.symm
     simp [hlt, intC, e, hh, hm, hi]
     done
    ·have e2 : ¬ x = L[j] := fun k => e k.symm
     have e3 : (x == L[j]) = false := by simpa using e2
     simp [hlt, intC, e2, e3, hw]
     refine ⟨j + 1, ⟨by omega, nothas_take hlt hno e⟩, by omega, ?_⟩
     simp [Leq, hh, leqH_take]
     done
   ·have : j = L.length := by omega
    subst this
    rw [List.take_length] at hno
    simp [hh, hno]
    done
 ·by_cases hm : x ∈ L
  ·rw [if_pos hm]; simp [hm]
  ·rw [if_neg hm]; simp [hm]
theorem jhas_c {h : List (List AV)} {L : List Int} (hl : L.length <= 1000000) (x : Int) : Contract Tryz.prog 190 [.sl 1 (enc intC L) none .no, .v (.int .i64 x)] h (.v (.bool (L.contains x))) h [] := by
 refine contract_of k190 mixed (by simp [c190]) fun hh hargs => ?_
 obtain ⟨n, k1, k2⟩ := jindex_c (h := h) hl x
 simp [c190]
 refine xcall_self (by simp) k1 ?_
 have k3 : decide (0 <= n) = decide (x ∈ L) := by rw [k2]; simp
 simp [hh, k3]
 done
end Go.Proofs.YtknohkmpficjgaaGreatDoor.Ax
namespace Go.Proofs.YtknohkmpficjgaaGreatDoor.Ax
open Go.RowKit Go By Dg
set_option maxRecDepth 10000
theorem qselected_c (s : List UInt8) (hs : s.length <= 9223372036854775807) (h : List (List AV)) : Contract Tryz.prog 129 [.v (.string (strB s))] h (.agg (vbC (if parseB s 99 = true then ⟨5, parseV s 99, []⟩ else ⟨0, 0, []⟩))) h [] := by
 refine contract_of k129 mixed (by simp [c129]) fun hh hargs => ?_
 simp [c129]
 refine xcall_self (by simp) (dparse_c s 99 hs _) ?_
 cases p : parseB s 99 with
 | false => simp [hh, vbC_mk, leqH_take]
 | true => simp [hh, vbC_mk, leqH_take]
theorem qfailed_c (s : List UInt8) (hs : s.length <= 9223372036854775807) (h : List (List AV)) : Contract Tryz.prog 130 [.v (.string (strB s))] h (.agg (vbC (if codeB s = true then ⟨8, 0, s⟩ else ⟨0, 0, []⟩))) h [] := by
 refine contract_of k130 mixed (by simp [c130]) fun hh hargs => ?_
 by_cases hl : s.length = 5
 ·have e1 : (s.length : Int) = 5 := by omega
  simp [c130, e1]
  refine xcall_self (by simp) (containsF_c s hs _) ?_
  have e2 : codeB s = s.all cdB := by unfold codeB; rw [decide_eq_true hl, Bool.true_and]
  rw [e2]
  cases p : s.all cdB with
  | false => simp [hh, vbC_mk, leqH_take]
  | true => simp [hh, vbC_mk, leqH_take]
 ·have e1 : ¬ (s.length : Int) = 5 := by omega
  have e2 : codeB s = false := by unfold codeB; rw [decide_eq_false hl, Bool.false_and]
  have e3 : ((s.length : Int) != 5) = true := by simpa using e1
  simp [c130, e1, e2, e3, hh, vbC_mk, leqH_take]
theorem qword_c (k : Int) (h : List (List AV)) : Contract Tryz.prog 189 [.v (.int .i64 k)] h (.v (.string (strB (wordQ k)))) h [] := by
 refine contract_of k189 mixed (by simp [c189]) fun hh hargs => ?_
 unfold wordQ
 by_cases e2 : k = 2
 ·subst e2; simp [c189, hh, beginT]
 by_cases e3 : k = 3
 ·subst e3; simp [c189, hh, commitT]
 by_cases e4 : k = 4
 ·subst e4; simp [c189, hh, rollT]
 by_cases e5 : k = 5
 ·subst e5; simp [c189, hh, selT]
 by_cases e6 : k = 6
 ·subst e6; simp [c189, hh, echoT]
 by_cases e7 : k = 7
 ·subst e7; simp [c189, hh, nextT]
 by_cases e8 : k = 8
 ·subst e8; simp [c189, hh, failT]
 simp [c189, hh, e2, e3, e4, e5, e6, e7, e8]
def aloneQ (s : List UInt8) : List Int -> Vb
 | [] => ⟨0, 0, []⟩
 | k :: r => if s = wordQ k then ⟨k, 0, []⟩ else aloneQ s r
theorem qalone_c (s : List UInt8) (ks : List Int) (hk : ks.length <= 1000) (h : List (List AV)) : Contract Tryz.prog 131 [.v (.string (strB s)), .sl 1 (enc intC ks) none .no] h (.agg (vbC (aloneQ s ks))) h [] := by
 refine contract_of k131 mixed (by simp [c131]) fun hh hargs => ?_
 simp [c131]
 refine xloop_ok (D := Nat) (fun j => ⟨[(0, .v (.string (strB s))), (4, .box h.length 0), (7, .sl 1 (enc intC ks) none .no), (8, .v (.int .i64 (ks.length : Int))), (9, .v (.int .i64 (j : Int)))], [], h ++ [[.v (.int .i64 0), .v (.int .i64 0), .v (.string (strB []))]], []⟩) (fun j => j <= ks.length /\ aloneQ s (ks.drop j) = aloneQ s ks) (fun j => ks.length - j) 0 ⟨by omega, by simp⟩ ?_ ?_
 ·simp [Leq, hh, leqH_take]
 ·rintro j ⟨hj, hl⟩
  have hw : IntKind.i64.wrap ((j : Int) + 1) = (j : Int) + 1 := wrap64 (by omega) (by omega)
  by_cases hlt : j < ks.length
  ·rw [List.drop_eq_getElem_cons hlt, aloneQ] at hl
   simp [hlt, intC]
   refine xcall_self (by simp) (qword_c _ _) ?_
   by_cases e : s = wordQ ks[j]
   ·rw [if_pos e] at hl
    simp [<- e, <- hl, hh, vbC_mk, leqH_take]
   ·rw [if_neg e] at hl
    have e0 : (s == wordQ ks[j]) = false := by simpa using e
    simp [e, e0, hw]
    refine ⟨j + 1, ⟨by omega, hl⟩, by omega, ?_⟩
    simp [Leq, hh, leqH_take]
  ·have : j = ks.length := by omega
   subst this
   rw [List.drop_length] at hl
   simp [<- hl, aloneQ, hh, vbC_mk, leqH_take]
theorem qis_c (v : Vb) (ks : List Int) (hk : ks.length <= 1000) (h : List (List AV)) : Contract Tryz.prog 132 [.agg (vbC v), .sl 1 (enc intC ks) none .no] h (.v (.bool (ks.contains v.kind))) h [] := by
 refine contract_of k132 mixed (by simp [c132]) fun hh hargs => ?_
 simp [c132]
 refine xcall_self (by simp) (jhas_c (by omega) _) ?_
 simp [hh]
theorem qparse_c (s : List UInt8) (hs : s.length <= 9223372036854775807) (h : List (List AV)) : Contract Tryz.prog 76 [.v (.string (strB s))] h (.agg (vbC (sayQ (trimL s)))) h [] := by
 refine contract_of k76 mixed (by simp [c76]) fun hh hargs => ?_
 simp [c76]
 refine xcall_self (by simp) (trim_c s hs _) ?_
 have hu := trim_len s
 generalize trimL s = u at hu ⊢
 simp
 refine xcall_self (by simp) (cutPrefix_c u selT _) ?_
 cases hp : hasP u selT with
 | true =>
  have e1 := hasP_eq hp
  have e2 : cutP u selT = u.drop 7 := by unfold cutP; rw [hp]; rfl
  rw [e2]
  have e3 : sayQ u = if parseB (u.drop 7) 99 = true then ⟨5, parseV (u.drop 7) 99, []⟩ else ⟨0, 0, []⟩ := by
   rw [show sayQ u = sayQ (selT ++ u.drop 7) from congrArg sayQ e1]
   exact say_sel _
  rw [e3]
  simp
  refine xcall_self (by simp) (qselected_c (u.drop 7) (by simp; omega) _) ?_
  simp [hh, leqH_take]
 | false =>
  simp
  refine xcall_self (by simp) (cutPrefix_c u failT _) ?_
  cases hq : hasP u failT with
  | true =>
   have e1 := hasP_eq hq
   have e2 : cutP u failT = u.drop 5 := by unfold cutP; rw [hq]; rfl
   rw [e2]
   have e3 : sayQ u = if codeB (u.drop 5) = true then ⟨8, 0, u.drop 5⟩ else ⟨0, 0, []⟩ := by
    rw [show sayQ u = sayQ (failT ++ u.drop 5) from congrArg sayQ e1]
    exact say_fail _
   rw [e3]
   simp
   refine xcall_self (by simp) (qfailed_c (u.drop 5) (by simp; omega) _) ?_
   simp [hh, leqH_take]
  | false =>
   simp
   refine xcall_of (qalone_c u [1, 2, 3, 4, 6, 7] (by simp) _) (by simp [intC]) (by simp) ?_
   have e : aloneQ u [1, 2, 3, 4, 6, 7] = sayQ u := by
    rw [say_else hp hq]
    simp [aloneQ, wordQ]
   rw [e]
   simp [hh, leqH_take]
end Go.Proofs.YtknohkmpficjgaaGreatDoor.Ax
