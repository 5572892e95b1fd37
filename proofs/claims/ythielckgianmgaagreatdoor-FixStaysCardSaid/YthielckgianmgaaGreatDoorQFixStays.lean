/- What is no fault, or of an entry whose names are the same, stays as it is; nothing of a hidden one is shown (P25.1, P25.2): for every input. -/
import Derived.Test.YthielckgianmgaaGreatDoorQAxHs
import Derived.Test.YthielckgianmgaaGreatDoorRows
import Derived.Test.YthielckgianmgaaGreatDoorQAxKc0
import Derived.Test.YthielckgianmgaaGreatDoorQAxSc
import Derived.Test.YthielckgianmgaaGreatDoorQAxIb
import Derived.Test.YthielckgianmgaaGreatDoorQAxFy
import Derived.Test.YthielckgianmgaaGreatDoorQAxTz
import Derived.Test.YthielckgianmgaaGreatDoorCards
import Derived.Test.YthielckgianmgaaGreatDoorTie
import Derived.Test.YthielckgianmgaaGreatDoorQElems
import Derived.Shelf.Vars
import Derived.WalkKit
import Derived.ProofKit
import Derived.OpenShut
import Derived.ShutString
import Derived.ChangeOld
import Derived.Below
import Derived.LaidMore
import Derived.Lay
import Derived.SevenTiedAt
import Derived.Stop.Joined
/- The texts of functions over values without memory, as the kernel reckons them out of the program. -/
namespace Go.Proofs.YthielckgianmgaaGreatDoor.Ax
open Go.RowKit Go By

def c6 : XFun := ⟨12, (.seq (.ops [⟨(some 4), (.assign (.const (.bool false))), none⟩]) (.seq (.seq (.ops [⟨(some 5), (.move (.tmp 0)), none⟩, ⟨(some 6), (.lenL (.tmp 5)), none⟩, ⟨(some 7), (.move (.tmp 1)), none⟩, ⟨(some 8), (.bin .gtr (.tmp 6) (.tmp 7)), none⟩]) (.cond (.tmp 8) (.seq (.ops [⟨(some 4), (.assign (.const (.bool false))), none⟩]) .ret) .skip)) (.seq (.ops [⟨(some 9), (.move (.tmp 0)), none⟩, ⟨(some 10), (.call 21 [(.tmp 9), (.func 22)]), none⟩, ⟨(some 11), (.un .not (.tmp 10)), none⟩, ⟨(some 4), (.assign (.tmp 11)), none⟩]) .ret))), [(.move (.tmp 4))]⟩
theorem k6 : cfun Tryz.prog 6 = some c6 := by kernel_rfl
def c22 : XFun := ⟨37, (.seq (.ops [⟨(some 1), (.box (.tmp 0)), none⟩, ⟨(some 2), (.assign (.const (.bool false))), none⟩]) (.seq (.ops [⟨(some 3), (.faddr 4 (.tmp 1)), none⟩, ⟨(some 4), (.load1 (.tmp 3)), none⟩, ⟨(some 5), (.lenL (.tmp 4)), none⟩, ⟨(some 6), (.bin .gtr (.tmp 5) (.const (.int .i64 10))), none⟩, ⟨(some 7), (.move (.tmp 6)), none⟩, ⟨(some 8), (.faddr 5 (.tmp 1)), (some (7, false))⟩, ⟨(some 9), (.load1 (.tmp 8)), (some (7, false))⟩, ⟨(some 10), (.lenL (.tmp 9)), (some (7, false))⟩, ⟨(some 11), (.bin .gtr (.tmp 10) (.const (.int .i64 10))), (some (7, false))⟩, ⟨(some 12), (.pick (.tmp 7) (.const (.bool true)) (.tmp 11)), none⟩, ⟨(some 13), (.move (.tmp 12)), none⟩, ⟨(some 14), (.faddr 6 (.tmp 1)), (some (13, false))⟩, ⟨(some 15), (.load1 (.tmp 14)), (some (13, false))⟩, ⟨(some 16), (.lenL (.tmp 15)), (some (13, false))⟩, ⟨(some 17), (.bin .gtr (.tmp 16) (.const (.int .i64 10))), (some (13, false))⟩, ⟨(some 18), (.pick (.tmp 13) (.const (.bool true)) (.tmp 17)), none⟩, ⟨(some 19), (.move (.tmp 18)), none⟩, ⟨(some 20), (.faddr 7 (.tmp 1)), (some (19, false))⟩, ⟨(some 21), (.load1 (.tmp 20)), (some (19, false))⟩, ⟨(some 22), (.lenL (.tmp 21)), (some (19, false))⟩, ⟨(some 23), (.bin .gtr (.tmp 22) (.const (.int .i64 300))), (some (19, false))⟩, ⟨(some 24), (.pick (.tmp 19) (.const (.bool true)) (.tmp 23)), none⟩, ⟨(some 25), (.move (.tmp 24)), none⟩, ⟨(some 26), (.faddr 2 (.tmp 1)), (some (25, false))⟩, ⟨(some 27), (.load1 (.tmp 26)), (some (25, false))⟩, ⟨(some 28), (.lenS (.tmp 27)), (some (25, false))⟩, ⟨(some 29), (.bin .gtr (.tmp 28) (.const (.int .i64 300))), (some (25, false))⟩, ⟨(some 30), (.pick (.tmp 25) (.const (.bool true)) (.tmp 29)), none⟩, ⟨(some 31), (.move (.tmp 30)), none⟩, ⟨(some 32), (.faddr 3 (.tmp 1)), (some (31, false))⟩, ⟨(some 33), (.load1 (.tmp 32)), (some (31, false))⟩, ⟨(some 34), (.lenS (.tmp 33)), (some (31, false))⟩, ⟨(some 35), (.bin .gtr (.tmp 34) (.const (.int .i64 300))), (some (31, false))⟩, ⟨(some 36), (.pick (.tmp 31) (.const (.bool true)) (.tmp 35)), none⟩, ⟨(some 2), (.assign (.tmp 36)), none⟩]) .ret)), [(.move (.tmp 2))]⟩
theorem k22 : cfun Tryz.prog 22 = some c22 := by kernel_rfl
def c21 : XFun := ⟨9, (.seq (.ops [⟨(some 4), (.assign (.const (.bool false))), none⟩]) (.seq (.ops [⟨(some 5), (.move (.tmp 0)), none⟩, ⟨(some 6), (.move (.tmp 1)), none⟩, ⟨(some 7), (.call 47 [(.tmp 5), (.tmp 6)]), none⟩, ⟨(some 8), (.bin .geq (.tmp 7) (.const (.int .i64 0))), none⟩, ⟨(some 4), (.assign (.tmp 8)), none⟩]) .ret)), [(.move (.tmp 4))]⟩
theorem k21 : cfun Tryz.prog 21 = some c21 := by kernel_rfl
def c47 : XFun := ⟨19, (.seq (.ops [⟨(some 4), (.assign (.const (.int .i64 0))), none⟩]) (.seq (.seq (.ops [⟨(some 6), (.move (.tmp 0)), none⟩, ⟨(some 7), (.lenL (.tmp 6)), none⟩, ⟨(some 8), (.move (.const (.int .i64 0))), none⟩]) (.block 0 (.loop (.seq (.ops [⟨(some 9), (.bin .lss (.tmp 8) (.tmp 7)), none⟩]) (.seq (.cond (.tmp 9) .skip (.exit 0)) (.seq (.block 1 (.seq (.ops [⟨(some 10), (.move (.tmp 8)), none⟩, ⟨(some 5), (.assign (.tmp 10)), none⟩]) (.seq (.ops [⟨(some 11), (.move (.tmp 1)), none⟩, ⟨(some 12), (.move (.tmp 0)), none⟩, ⟨(some 13), (.move (.tmp 5)), none⟩, ⟨(some 14), (.iaddr 8 (.tmp 12) (.tmp 13)), none⟩, ⟨(some 15), (.loadN 8 (.tmp 14)), none⟩, ⟨(some 16), (.callv (.tmp 11) [(.tmp 15)]), none⟩]) (.cond (.tmp 16) (.seq (.ops [⟨(some 17), (.move (.tmp 5)), none⟩, ⟨(some 4), (.assign (.tmp 17)), none⟩]) .ret) .skip)))) (.ops [⟨(some 18), (.bin .add (.tmp 8) (.const (.int .i64 1))), none⟩, ⟨(some 8), (.move (.tmp 18)), none⟩]))))))) (.seq (.ops [⟨(some 4), (.assign (.const (.int .i64 (-1)))), none⟩]) .ret))), [(.move (.tmp 4))]⟩
theorem k47 : cfun Tryz.prog 47 = some c47 := by kernel_rfl
end Go.Proofs.YthielckgianmgaaGreatDoor.Ax
/- Entries that are few, over values without memory. -/
namespace Go.Proofs.YthielckgianmgaaGreatDoor.Ax
open Go.RowKit Go By
set_option linter.unusedSimpArgs false
set_option linter.unusedVariables false
set_option maxRecDepth 10000

/-! ### Entries that are few -/
def fewE (e : En) : Bool := decide (e.good.length ≤ 10 ∧ e.bad.length ≤ 10 ∧ e.cache.length ≤ 10 ∧ e.reply.length ≤ 300 ∧ e.from_.length ≤ 300 ∧ e.to.length ≤ 300)
def fewEL (l : List En) (n : Int) : Bool := decide ((l.length : Int) ≤ n) && l.all fewE
theorem entry_c (e : En) (h : List (List AV)) : Contract Tryz.prog 22 [.agg (enC e)] h (.v (.bool (!fewE e))) h [] := by
  refine contract_of k22 mixed (by simp [c22]) fun hh hargs => ?_
  simp [c22, enC_mk]
  by_cases q1 : e.good.length ≤ 10
  · have p1 : ¬ (10 : Int) < e.good.length := by omega
    by_cases q2 : e.bad.length ≤ 10
    · have p2 : ¬ (10 : Int) < e.bad.length := by omega
      by_cases q3 : e.cache.length ≤ 10
      · have p3 : ¬ (10 : Int) < e.cache.length := by omega
        by_cases q4 : e.reply.length ≤ 300
        · have p4 : ¬ (300 : Int) < e.reply.length := by omega
          by_cases q5 : e.from_.length ≤ 300
          · have p5 : ¬ (300 : Int) < e.from_.length := by omega
            by_cases q6 : e.to.length ≤ 300
            · have p6 : ¬ (300 : Int) < e.to.length := by omega
              simp [p1, p2, p3, p4, p5, p6, q1, q2, q3, q4, q5, q6, fewE, strB_size, hh]
            · have p6 : (300 : Int) < e.to.length := by omega
              simp [p1, p2, p3, p4, p5, p6, q1, q2, q3, q4, q5, q6, fewE, strB_size, hh]
          · have p5 : (300 : Int) < e.from_.length := by omega
            simp [p1, p2, p3, p4, p5, q1, q2, q3, q4, q5, fewE, strB_size, hh]
        · have p4 : (300 : Int) < e.reply.length := by omega
          simp [p1, p2, p3, p4, q1, q2, q3, q4, fewE, strB_size, hh]
      · have p3 : (10 : Int) < e.cache.length := by omega
        simp [p1, p2, p3, q1, q2, q3, fewE, hh]
    · have p2 : (10 : Int) < e.bad.length := by omega
      simp [p1, p2, q1, q2, fewE, hh]
  · have p1 : (10 : Int) < e.good.length := by omega
    simp [p1, q1, fewE, hh]
theorem entries_n (l : List En) (m : Nat) (hm : m ≤ 1000) (h : List (List AV)) : Contract Tryz.prog 6 [.sl 8 (enc enC l) none .no, .v (.int .i64 (m : Int))] h (.v (.bool (fewEL l m))) h [] := by
  refine contract_of k6 mixed (by simp [c6]) fun hh hargs => ?_
  by_cases hL : (m : Int) < l.length
  · have e : fewEL l m = false := by unfold fewEL; simp; intro h1; omega
    rw [e]
    simp [c6, hL, hh]
  · have e : fewEL l m = !(l.any fun e => !fewE e) := by unfold fewEL; rw [← List.not_all_eq_any_not]; simp; omega
    rw [e]
    simp [c6, hL]
    refine xcall_self (by simp) (containsN_any mixed k21 k47 enC (fun e => !fewE e) l [] _ (by simp) (by simp) (by simp) (fun e _ => entry_c e _) (by omega)) ?_
    simp [hh]
end Go.Proofs.YthielckgianmgaaGreatDoor.Ax
/- Replies as clients get them: the statements of layer 25. -/
namespace Go.Proofs.YthielckgianmgaaGreatDoor.Ax
open Go.RowKit Go By Sc Dg
set_option linter.unusedSimpArgs false
set_option linter.unusedVariables false
set_option maxRecDepth 10000

def errT : List UInt8 := [69, 82, 82, 79, 82]
def namesE (a b : List UInt8) : En := ⟨0, false, a, b, [], [], [], []⟩
theorem told_mid {sev code text : List UInt8} (h1 : sev.length ≤ 1000) (h2 : code.length ≤ 1000) (h3 : text.length ≤ 1000) : BkMid (toldF sev code text) := by
  refine ⟨by simp [toldF], by simp [toldF], by simp [toldF], by simp [toldF, makeF], by simp [toldF], fun f hf => ?_⟩
  simp [toldF, makeF] at hf
  rcases hf with rfl | rfl | rfl | rfl <;> simp <;> omega
theorem told_tell {sev code text : List UInt8} (h1 : sev.length ≤ 1000) (h2 : code.length ≤ 1000) (h3 : text.length ≤ 1000) : Tellable (toldF sev code text) := by
  obtain ⟨f1, f2, f3⟩ := told_fit sev code text h1 h2 h3
  refine ⟨f1, ⟨by simp [toldF], by simp [toldF], fun f hf => ?_⟩, f2, by omega⟩
  simp [toldF, makeF] at hf
  rcases hf with rfl | rfl | rfl | rfl <;> simp <;> omega
/-! ### Awake -/
def noneT : List UInt8 := [95, 110, 111, 110, 101]
def awE25 : En := namesE noneT [97]
def awB25 : Bk := fixB awE25 (toldF errT [50, 54, 48, 48, 48] (missL noneT))
theorem aw25_get : getF awB25.fields 77 = (missL [97], true) := by decide +kernel
theorem aw25_len : 10 < (bytesB [fixB awE25 awB25]).length := by decide +kernel
theorem aw25_mid : BkMid awB25 := by
  refine ⟨by decide +kernel, by decide +kernel, by decide +kernel, by decide +kernel, by decide +kernel, ?_⟩
  have : ∀ f ∈ awB25.fields, f.text.length ≤ 3000 := by decide +kernel
  exact this
theorem aw25_tell : Tellable awB25 := fix_tell (told_tell (by simp [errT]) (by simp) (by decide)) (told_mid (by simp [errT]) (by simp) (by decide)) ⟨by decide, by decide⟩
theorem awake25_c (h : List (List AV)) : Contract Tryz.prog 8 [] h (.v (.bool true)) h [] := by
  have k1 := fun h => fixback_c awE25 (toldF errT [50, 54, 48, 48, 48] (missL noneT)) (told_mid (by simp [errT]) (by simp) (by decide)) ⟨by decide, by decide⟩ h
  have k2 := fun h => fixshown_c awE25 awB25 aw25_tell aw25_mid ⟨by decide, by decide⟩ h
  have k3 := fun h => tmiss_c noneT (by decide) h
  have k4 := fun h => tmiss_c [97] (by decide) h
  have k5 := fun h => ferror_c [50, 54, 48, 48, 48] (missL noneT) h
  have k6 := fun h => fget_c awB25.fields 77 (by decide +kernel) h
  rw [aw25_get] at k6
  have hl : (10 : Int) < (shownB awE25 awB25).length := by
    have e : shownB awE25 awB25 = bytesB [fixB awE25 awB25] := rfl
    have := aw25_len
    rw [e]
    omega
  refine contract_cut (XCode.cuts [false, true, true] c8.code) k8 rfl mixed (by simp [c8]) fun hh hargs => ?_
  simp [c8]
  refine xseq_cut ⟨[(1, .box h.length 0)], [], h ++ [enC awE25], []⟩ ?_ ?_
  · simp [Leq, hh, leqH_take, enC_mk, awE25, namesE, noneT]
    refine leqH_front h 0 ?_
    simp
    done
  refine xseq_cut ⟨[(1, .box h.length 0), (2, .box (h.length + 1) 0)], [], h ++ [enC awE25, bkC awB25], []⟩ ?_ ?_
  · simp
    have hcut : ∀ (x : List AV), List.take h.length (h ++ [enC awE25, x]) = h := fun x => List.take_left
    refine ⟨?_, ?_⟩
    · refine xcall_self (by simp) (k3 _) ?_
      simp
      refine ⟨?_, ?_⟩
      · refine xcall_self (by simp) (k5 _) ?_
        simp
        refine ⟨?_, ?_⟩
        · refine xcall_self (by simp) (k1 _) ?_
          simp [Leq, hh, leqH_take, awB25]
        · refine xcall_self (by simp) (k1 _) ?_
          simp [Leq, hh, leqH_take, awB25]
      · refine xcall_self (by simp) (k5 _) ?_
        simp
        refine xcall_self (by simp) (k1 _) ?_
        simp [Leq, hh, leqH_take, awB25]
    · refine xcall_self (by simp) (k3 _) ?_
      simp
      refine xcall_self (by simp) (k5 _) ?_
      simp
      refine xcall_self (by simp) (k1 _) ?_
      simp [Leq, hh, leqH_take, awB25]
  · simp
    refine xcall_self (by simp) (k6 _) ?_
    simp
    refine xcall_self (by simp) (k4 _) ?_
    simp
    refine xcall_self (by simp) (k2 _) ?_
    simp [hh, hl]
end Go.Proofs.YthielckgianmgaaGreatDoor.Ax
/- The statements of layer 25: what a reply is told as. -/
namespace Go.Proofs.YthielckgianmgaaGreatDoor.Ax
open Go.RowKit Go By Sc Dg
set_option linter.unusedSimpArgs false
set_option linter.unusedVariables false
set_option maxRecDepth 10000

theorem fewE_names {e : En} (h : fewE e = true) : OkNames e := by
  unfold fewE at h
  simp only [decide_eq_true_eq] at h
  exact ⟨by omega, by omega⟩
theorem few_one (e : En) : fewEL [e] 1 = fewE e := by
  unfold fewEL
  simp
theorem plain_fix {b : Bk} (hb : OkBk b) (hp : plainB b = true) : Tellable b := by
  have hfi : ∀ g ∈ b.fields, FiOk g := fun g hg => (hb.2.2.2.2.2.2.2.2.2.2.2 g hg).1
  obtain ⟨q1, q2, q3⟩ := fit_of_plainB hb.2.1 hfi hp
  exact ⟨q1, short_of_plainB hp, q2, by omega⟩
theorem fixtells_c (e : En) (b : Bk) (hb : OkBk b) : Contract Tryz.prog 3 [.agg (enC e), .agg (bkC b)] [] (.v (.bool true)) [] [] := by
  refine contract_of k3 mixed (by simp [c3]) fun hh hargs => ?_
  simp [c3]
  have k1 : ∀ h, Contract Tryz.prog 6 [.sl 8 (enc enC [e]) none .no, .v (.int .i64 1)] h (.v (.bool (fewE e))) h [] := fun h => by
    have := entries_n [e] 1 (by omega) h
    rw [← few_one e]
    exact this
  refine xcall_of (k1 _) (by simp) (by simp) ?_
  cases p : fewE e with
  | false =>
    simp
    refine xcall_self (by simp) (awake25_c _) ?_
    simp
  | true =>
    simp
    refine xcall_self (by simp) (bplain_c b _) ?_
    cases q : plainB b with
    | false =>
      simp
      refine xcall_self (by simp) (awake25_c _) ?_
      simp
    | true =>
      have hn := fewE_names p
      have hm := mid_of_plain q
      have ht := plain_fix hb q
      have hf := fix_tell ht hm hn
      simp
      refine xcall_self (by simp) (fixback_c e b hm hn _) ?_
      simp
      refine xcall_self (by simp) (rfixback_c e b hm hn _) ?_
      simp
      refine xcall_self (by simp) (bsame_c _ _ hf.1 _) ?_
      simp [sameB_refl]
      refine xcall_self (by simp) (fixshown_c e b ht hm hn _) ?_
      simp
      refine xcall_self (by simp) (rfixshown_c e b ht hm hn _) ?_
      simp
      refine xcall_self (by simp) (equal_c _ _ _) ?_
      simp
      refine xcall_self (by simp) (awake25_c _) ?_
      simp
theorem enC_set (e : En) : (enC e).set 1 (.v (.bool true)) = enC { e with hide := true } := rfl
theorem fixB_hide (e : En) (b : Bk) : fixB { e with hide := true } b = fixB e b := rfl
theorem fixB_kind (e : En) (b : Bk) : (fixB e b).kind = b.kind := by unfold fixB; split <;> rfl
theorem fixstays_c (e : En) (b : Bk) (hb : OkBk b) : Contract Tryz.prog 4 [.agg (enC e), .agg (bkC b)] [] (.v (.bool true)) [] [] := by
  refine contract_cut (XCode.cuts [false, false, true] c4.code) k4 rfl mixed (by simp [c4]) fun hh hargs => ?_
  simp [c4]
  have k1 : ∀ h, Contract Tryz.prog 6 [.sl 8 (enc enC [e]) none .no, .v (.int .i64 1)] h (.v (.bool (fewE e))) h [] := fun h => by
    have := entries_n [e] 1 (by omega) h
    rw [← few_one e]
    exact this
  refine xcall_of (k1 _) (by simp) (by simp) ?_
  cases p : fewE e with
  | false =>
    simp
    refine xcall_self (by simp) (awake25_c _) ?_
    simp
  | true =>
    simp
    refine xcall_self (by simp) (bplain_c b _) ?_
    cases q : plainB b with
    | false =>
      simp
      refine xcall_self (by simp) (awake25_c _) ?_
      simp
    | true =>
      have hn := fewE_names p
      have hm := mid_of_plain q
      have ht := plain_fix hb q
      have hf := fix_tell ht hm hn
      simp
      refine xseq_cut ⟨[(2, .box 0 0), (3, .box 1 0)], [], [enC e, bkC b], []⟩ ?_ ?_
      · by_cases k : b.kind = 69
        · by_cases n : e.from_ = e.to
          · have hx : fixB e b = b := by unfold fixB; rw [if_neg (by simp [n])]
            have kf := fun h => fixback_c e b hm hn h
            rw [hx] at kf
            simp [k, n]
            refine xcall_self (by simp) (kf _) ?_
            simp
            refine xcall_self (by simp) (rbsame_c b b ht.1 _) ?_
            simp [sameB_refl, Leq]
          · have n2 : (e.from_ == e.to) = false := by simpa using n
            simp [k, n, n2, Leq]
        · have k2 : (b.kind != 69) = true := by simpa using k
          have hx : fixB e b = b := by unfold fixB; rw [if_neg (by simp [k])]
          have kf := fun h => fixback_c e b hm hn h
          rw [hx] at kf
          simp [k, k2]
          refine xcall_self (by simp) (kf _) ?_
          simp
          refine xcall_self (by simp) (rbsame_c b b ht.1 _) ?_
          simp [sameB_refl, Leq]
      · have hs : shownB { e with hide := true } b = [] := rfl
        have ks := fun h => fixshown_c { e with hide := true } b ht hm hn h
        have kf := fun h => fixback_c { e with hide := true } b hm hn h
        rw [hs] at ks
        rw [fixB_hide] at kf
        have hk := fixB_kind e b
        simp [enC_set]
        refine xcall_self (by simp) (ks _) ?_
        simp
        refine xcall_self (by simp) (kf _) ?_
        simp [hk]
        refine xcall_self (by simp) (awake25_c _) ?_
        simp
end Go.Proofs.YthielckgianmgaaGreatDoor.Ax
namespace Go.Proofs.YthielckgianmgaaGreatDoor.fixStays
open Go.ChangeShapes Go.WideShapes Go.ChangeAt Go.RowKit
open Go.ChangeMaps (open_string shut_string)
set_option linter.unusedVariables false

theorem own : ownKnob Tryz.prog.godebug = none := by kernel_rfl
theorem laidOut : laidOutB Tryz.prog = true := by kernel_rfl

set_option maxRecDepth 100000 in
theorem dom (W : World) (h : W.ShapedOpen Tryz.prog) : Ax.Dom W :=
  cell_of_shapedOpen_int (g := 0) (t := 3) (zero := #[.int .i64 0]) h (of_decide_eq_true (by kernel_rfl)) (by kernel_rfl) rfl (by kernel_rfl) (by kernel_rfl) Tryz.underlying3

set_option maxRecDepth 100000 in
theorem lifted (os : Os) (started : os.Started) (H : Type) (enc : TypeId × Value → H) :
    ReturnsInHanded {} Tryz.checked os 4 .any (fun w args => (Rows.fixStaysSpec.pre enc Tryz.prog Tryz.f4 Rows.fixStaysRow.domain false w args ∧ laidMetH Tryz.prog Rows.fixStaysRow.laid w) ∧ sizedMet enc Tryz.prog Tryz.f4 (OpenSpec.ofChange Rows.fixStaysSpec) false w args) (Rows.fixStaysSpec.post enc Tryz.prog Tryz.f4 false true false false) := by
  refine Ax.handed_shaped (C := Tryz.checked) (X := fun w _ => laidMetH Tryz.prog Rows.fixStaysRow.laid w) (fun _ _ _ hh h => h.of_heap hh) own started (by kernel_rfl) Tryz.func4
    (ChangeSpec.witness_shaped (enc := enc) (C := Tryz.checked) (os := os) (X := fun w _ => laidMetH Tryz.prog Rows.fixStaysRow.laid w) false (World.laidAll Tryz.prog os Rows.fixStaysRow.laid) #[.agg #[.int .i64 0, .bool false, .string ByteArray.empty, .string ByteArray.empty, .slice none 0 0, .slice none 0 0, .slice none 0 0, .slice none 0 0], .agg #[.int .u8 0, .int .u8 0, .string ByteArray.empty, .string ByteArray.empty, .string ByteArray.empty, .int .i64 0, .int .i64 0, .slice none 0 0, .slice none 0 0, .slice none 0 0, .slice none 0 0]] 8 (World.laidAll_os _ _ _)
      (World.shaped_of_ZipB (by kernel_rfl) (by kernel_rfl)) (by kernel_rfl) (by kernel_rfl) (by kernel_rfl)
      (by rw [MakeChecks.laidMetH_plain _ _ _ (by kernel_rfl)]; exact laidMet_laidAll _ (by kernel_rfl) (by kernel_rfl))) ?_
  intro W base args ds gs before hval0 hW hL hsh _
  have hdom : Ax.Dom W := dom W hsh
  have hval : ∀ (j : Nat) t v, Tryz.f4.params[j]? = some t → args[j]? = some v → Value.okWide Tryz.prog W .any base t v := hval0
  have hW' := hW
  obtain ⟨p, q, hA0, hV, rfl, hfz, hnd⟩ := hW
  have hA : DataW.TrodAll enc Tryz.prog W 0 (fun _ => true) true Tryz.f4.params.toList args.toList ds p := hA0
  rw [Tryz.params4] at hA hval
  obtain ⟨v0, vs0, d0, ds0, p0, q0, hargs, rfl, rfl, h0, r0⟩ := trodAll_cons hA
  obtain ⟨v1, vs1, d1, ds1, p1, q1, rfl, rfl, rfl, h1, r1⟩ := trodAll_cons r0
  obtain ⟨rfl, rfl, rfl⟩ := trodAll_nil r1
  obtain rfl : args = #[v0, v1] := by cases args; simp_all
  obtain ⟨rfl, rfl⟩ := trodVars_none hV
  have k0 := h0
  have lt0 : ∀ x ∈ p0, x.block < W.heap.size := by obtain ⟨m, hm⟩ := k0; exact DataW.trod_lt m _ _ _ hm
  obtain ⟨a0, ok0, s0⟩ := Ax.arg_struct Tryz.underlying26 Ax.sh_enC (hval 0 26 v0 rfl rfl) h0
  have k1 := h1
  have lt1 : ∀ x ∈ p1, x.block < W.heap.size := by obtain ⟨m, hm⟩ := k1; exact DataW.trod_lt m _ _ _ hm
  obtain ⟨a1, ok1, s1⟩ := Ax.arg_struct Tryz.underlying32 Ax.sh_bkC (hval 1 32 v1 rfl rfl) h1
  clear hA0 hval0 hL hsh
  refine (Ax.law_walk (w := W) hdom (Ax.fixstays_c a0 a1 ok1) (by simp) (.cons s0 (.cons s1 .nil))).mono fun e W' ⟨he, bel⟩ => ?_
  subst he
  exact ⟨_, rfl, _, _, _, [], _, [], hW', trodAll_mk1 (shut_bool Tryz.underlying4 _), (trodAll_cons_mk (Below.trod laidOut (by kernel_rfl) (of_decide_eq_true (by kernel_rfl)) k0 bel lt0) (trodAll_cons_mk (Below.trod laidOut (by kernel_rfl) (of_decide_eq_true (by kernel_rfl)) k1 bel lt1) trodAll_mk0)), rfl, bel.frame _, fun h => by cases h⟩

theorem over : Rows.fixStaysRow.holds Tryz.pinned (OpenSpec.ofChange Rows.fixStaysSpec) :=
  OpenClaim.holds_of_wide 4 Tryz.f4 rfl rfl rfl rfl rfl rfl rfl ⟨rfl, rfl, rfl, rfl, rfl⟩ rfl rfl rfl rfl rfl (by kernel_rfl) Tryz.func4 (by kernel_rfl)
    (of_decide_eq_true (by kernel_rfl)) (by unfold Func.isWrapper; first | (rw [if_pos (by decide +kernel)]; kernel_rfl) | (rw [if_neg (by decide +kernel)]; exact ⟨rfl, rfl⟩))
    (fun os started H enc _ => lifted os started H enc)

theorem proved : Rows.FixStaysCardSaid :=
  Claim7.holds_tied_plain_at .later [] [.data, .pinned] true (true, "e29613268a1fcaf2ec0fe5fc326ac9731bf14d9e295aa49132f397e6333a1654") false over (fun _ h => by cases h) (by kernel_rfl) (fun _ h => by cases h) fixStays_row_tie rfl ⟨rfl, rfl⟩ (by kernel_rfl) rfl
    (fun f fn hf hfn => by
      obtain rfl : f = 4 := Option.some.inj ((show Tryz.prog.funcNamed "remuda/remudalaw25.FixStays" = some 4 by kernel_rfl).symm.trans hf) |>.symm
      obtain rfl : fn = Tryz.f4 := (Option.some.inj (Tryz.func4.symm.trans hfn)).symm
      exact ⟨by kernel_rfl, fun j t ht => by
        rw [Tryz.params4] at ht
        have hm : t ∈ [26, 32] := by simpa using Array.mem_of_getElem? ht
        have hall : ([26, 32].all fun u => !Tryz.prog.wantsStandIn u) = true := by kernel_rfl
        exact (show Tryz.prog.wantsStandIn t = false by simpa using List.all_eq_true.1 hall t hm)⟩)
    (by kernel_rfl)
#print axioms proved
end Go.Proofs.YthielckgianmgaaGreatDoor.fixStays
