/- what is pushed is popped in its order, and none twice, whatever entries and whatever order of calls -/
import Derived.Test.YtpogpofmakcodaaQAxTz
import Derived.Test.YtpogpofmakcodaaQAxBa
import Derived.Test.YtpogpofmakcodaaQAxIb
import Derived.Test.YtpogpofmakcodaaQAxQf
import Derived.Test.YtpogpofmakcodaaQCodeA
import Derived.Test.YtpogpofmakcodaaRows
import Derived.Test.YtpogpofmakcodaaQElems
import Derived.Test.YtpogpofmakcodaaQAxX
import Derived.WalkKit
import Derived.ProofKit
import Derived.OpenShut
import Derived.ShutString
import Derived.ChangeOld
import Derived.Below
/- Entries that are few, over values without memory. -/
namespace Go.Proofs.Ytpogpofmakcodaa.Ax
open Go.RowKit Go By
set_option linter.unusedSimpArgs false
set_option linter.unusedVariables false
set_option maxRecDepth 10000

/-! ### Entries that are few -/
def fewE (e : En) : Bool := decide (e.good.length ≤ 10 ∧ e.bad.length ≤ 10 ∧ e.cache.length ≤ 10 ∧ e.reply.length ≤ 300 ∧ e.from_.length ≤ 300 ∧ e.to.length ≤ 300)
def fewEL (l : List En) (n : Int) : Bool := decide ((l.length : Int) ≤ n) && l.all fewE
theorem entry_c (e : En) (h : List (List AV)) : Contract Try.prog 53 [.agg (enC e)] h (.v (.bool (!fewE e))) h [] := by
  refine contract_of k53 mixed (by simp [c53]) fun hh hargs => ?_
  simp [c53, enC_mk]
  by_cases q1 : e.good.length ≤ 10
  · have p1 : ¬ (10 : Int) < e.good.length := by omega
    by_cases q2 : e.bad.length ≤ 10
    · have p2 : ¬ (10 : Int) < e.bad.length := by omega
      by_cases q3 : e.cache.length ≤ 10
      · have p3 : ¬ (10 : Int) < e.cache.length := by omega
        by_cases q4 : e.reply.length ≤ 300
        · have p4 : ¬ (300 : Int) < e.reply.length := by omega
          by_cases q5 : e.from_.length ≤ 300
          · have p5 : ¬ (300 : Int) < e.from_.length := by omega
            by_cases q6 : e.to.length ≤ 300
            · have p6 : ¬ (300 : Int) < e.to.length := by omega
              simp [p1, p2, p3, p4, p5, p6, q1, q2, q3, q4, q5, q6, fewE, strB_size, hh]
            · have p6 : (300 : Int) < e.to.length := by omega
              simp [p1, p2, p3, p4, p5, p6, q1, q2, q3, q4, q5, q6, fewE, strB_size, hh]
          · have p5 : (300 : Int) < e.from_.length := by omega
            simp [p1, p2, p3, p4, p5, q1, q2, q3, q4, q5, fewE, strB_size, hh]
        · have p4 : (300 : Int) < e.reply.length := by omega
          simp [p1, p2, p3, p4, q1, q2, q3, q4, fewE, strB_size, hh]
      · have p3 : (10 : Int) < e.cache.length := by omega
        simp [p1, p2, p3, q1, q2, q3, fewE, hh]
    · have p2 : (10 : Int) < e.bad.length := by omega
      simp [p1, p2, q1, q2, fewE, hh]
  · have p1 : (10 : Int) < e.good.length := by omega
    simp [p1, q1, fewE, hh]
theorem entries_n (l : List En) (m : Nat) (hm : m ≤ 1000) (h : List (List AV)) : Contract Try.prog 30 [.sl 8 (enc enC l) none .no, .v (.int .i64 (m : Int))] h (.v (.bool (fewEL l m))) h [] := by
  refine contract_of k30 mixed (by simp [c30]) fun hh hargs => ?_
  by_cases hL : (m : Int) < l.length
  · have e : fewEL l m = false := by unfold fewEL; simp; intro h1; omega
    rw [e]
    simp [c30, hL, hh]
  · have e : fewEL l m = !(l.any fun e => !fewE e) := by unfold fewEL; rw [← List.not_all_eq_any_not]; simp; omega
    rw [e]
    simp [c30, hL]
    refine xcall_self (by simp) (containsN_any mixed k52 k47 enC (fun e => !fewE e) l [] _ (by simp) (by simp) (by simp) (fun e _ => entry_c e _) (by omega)) ?_
    simp [hh]
end Go.Proofs.Ytpogpofmakcodaa.Ax
/- Layer 21's statements: a queue that no call made, and two entries, over values without memory. -/
namespace Go.Proofs.Ytpogpofmakcodaa.Ax
open Go.RowKit Go By
set_option linter.unusedSimpArgs false
set_option linter.unusedVariables false
set_option maxRecDepth 10000

theorem take_of {h H : List (List AV)} (hl : h.length ≤ H.length) (hq : ∀ q, q < h.length → H[q]? = h[q]?) (more : List (List AV)) : List.take h.length (H ++ more) = h := by
  refine List.ext_getElem? fun q => ?_
  rw [List.getElem?_take]
  by_cases hlt : q < h.length
  · rw [if_pos hlt, List.getElem?_append_left (by omega), hq q hlt]
  · rw [if_neg hlt, List.getElem?_eq_none (by omega)]
def aE (k : Int) : En := { zE with kind := k }
theorem aE_fit (k : Int) : EnFit (aE k) := by simp [EnFit, aE, zE]
theorem pushH_len (h : List (List AV)) (i : Nat) (o : Option (Nat × Nat)) (most : Nat) (L l : List En) : h.length ≤ (pushH h i o most L l).length := by
  unfold pushH; rw [List.length_set]; exact apQ_len h o L l
theorem pushH_get {h : List (List AV)} {i : Nat} {o : Option (Nat × Nat)} {most : Nat} {L : List En} (l : List En) {q : Nat} (hq : q < h.length) (hi : q ≠ i) (hp : ∀ p, o = some p → q ≠ p.1) : (pushH h i o most L l)[q]? = h[q]? := by
  unfold pushH
  rw [List.getElem?_set_ne (Ne.symm hi), apQ_get hq hp]
theorem qH_len (h : List (List AV)) (i : Nat) (o : Option (Nat × Nat)) (n len most : Nat) : (qH h i o n len most).length = h.length := by unfold qH; rw [List.length_set]
theorem qH_get {h : List (List AV)} {i : Nat} {o : Option (Nat × Nat)} {n len most : Nat} {q : Nat} (hi : q ≠ i) : (qH h i o n len most)[q]? = h[q]? := by
  unfold qH; rw [List.getElem?_set_ne (Ne.symm hi)]
/-- A queue that was made and pushed to. -/
theorem qmade_at {h : List (List AV)} (hh : ltLL h.length h) (most : Nat) (l : List En) (hne : l ≠ []) : QAt (pushH (h ++ [qC none 0 most]) h.length none most [] l) h.length (some (h.length + 1, 0)) most l := by
  have h1 := (newQ_at hh most).push l
  have e : apO (h ++ [qC none 0 most]) none l = some (h.length + 1, 0) := by unfold apO; rw [if_neg hne]; simp
  rw [e] at h1
  simpa using h1
theorem qmade_get {h : List (List AV)} {most : Nat} (l : List En) {q : Nat} (hq : q < h.length) : (pushH (h ++ [qC none 0 most]) h.length none most [] l)[q]? = h[q]? := by
  rw [pushH_get l (by simp; omega) (by omega) (fun p hp => by cases hp), List.getElem?_append_left hq]
theorem qawake_c (h : List (List AV)) : Contract Try.prog 14 [] h (.v (.bool true)) h [] := by
  refine contract_of k14 mixed (by simp [c14]) fun hh hargs => ?_
  obtain ⟨l, hl⟩ : ∃ l, l = [aE 2, aE 8] := ⟨_, rfl⟩
  have hfit : ∀ e ∈ l, EnFit e := by rw [hl]; intro e he; simp at he; rcases he with rfl | rfl <;> exact aE_fit _
  have hs1 : skN l = 1 := by rw [hl]; rfl
  have hlen : l.length = 2 := by rw [hl]; rfl
  have t1 := newQ_at hh 3
  have t2 := qmade_at hh 3 l (by rw [hl]; simp)
  have hp := qpush_c t1 l hfit (by omega) (by omega) (by simp [hlen])
  have haw : apWr none l [] = [] := by unfold apWr; split <;> rfl
  rw [haw] at hp
  have hpl := pushH_len (h ++ [qC none 0 3]) h.length none 3 [] l
  have hg2 := fun q hq => qmade_get (h := h) (most := 3) l (q := q) hq
  generalize hH2 : pushH (h ++ [qC none 0 3]) h.length none 3 [] l = H2 at *
  have hsk := qskip_c t2 (by omega) rfl (by rw [hl]; simp)
  have t3 := t2.cut 1 (by omega)
  rw [hs1] at hsk
  have hH3l := qH_len H2 h.length (some (h.length + 1, 0)) 1 l.length 3
  have hg3 := fun q (hq : q ≠ h.length) => qH_get (h := H2) (i := h.length) (o := some (h.length + 1, 0)) (n := 1) (len := l.length) (most := 3) hq
  simp at hpl
  have hn : Contract Try.prog 11 [.v (.int .i64 3)] h (.tup [.box h.length 0, .v (.int .i64 0)]) (h ++ [qC none 0 3]) [] := qnew_c (most := 3) (by omega) (by omega) h
  have hd : l.drop 1 = [aE 8] := by rw [hl]; rfl
  rw [hd] at t3
  have hhd := qhead_c t3 (by intro e he; simp at he; subst he; exact aE_fit _)
  have hle := qlen_c (t3.app [enC (aE 8)] (by simp))
  have hrow : RowsAt H2 (h.length + 1) 0 l := t2.rows rfl
  have hrow3 : RowsAt (qH H2 h.length (some (h.length + 1, 0)) 1 l.length 3) (h.length + 1) 0 l := hrow.stay (hg3 _ (by omega))
  have htk : ∀ more, List.take h.length (qH H2 h.length (some (h.length + 1, 0)) 1 l.length 3 ++ more) = h := fun more => take_of (by omega) (fun q hq => by rw [hg3 q (by omega), hg2 q hq]) more
  have hlt3 := t3.lt
  change ltLL (qH H2 h.length (some (h.length + 1, 0)) 1 l.length 3).length (qH H2 h.length (some (h.length + 1, 0)) 1 l.length 3) at hlt3
  change Contract _ _ _ (qH H2 h.length (some (h.length + 1, 0)) 1 l.length 3) _ (qH H2 h.length (some (h.length + 1, 0)) 1 l.length 3) _ at hhd
  change Contract _ _ _ (qH H2 h.length (some (h.length + 1, 0)) 1 l.length 3 ++ _) _ (qH H2 h.length (some (h.length + 1, 0)) 1 l.length 3 ++ _) _ at hle
  generalize qH H2 h.length (some (h.length + 1, 0)) 1 l.length 3 = H3 at *
  obtain ⟨cs, hb, hrd⟩ := hrow3.reads
  have hfit0 := hrd.fit 0 (by omega)
  have hat0 := hrd.at_ (j := 0) (by omega) 0 (by omega)
  have e0 : l[0] = aE 2 := by simp [hl]
  rw [e0, enC_0] at hat0
  have hbm : ∀ more : List (List AV), (H3 ++ more)[h.length + 1]? = some cs := fun more => by rw [List.getElem?_append_left (List.getElem?_eq_some_iff.1 hb).1]; exact hb
  simp [aE] at hat0 hhd hle
  simp [c14]
  refine xcall_self (by simp) hn ?_
  simp
  refine xcall_of hp (by simp [hl, aE, zE, enC_mk]) (by simp) ?_
  simp
  refine xcall_self (by simp) hsk ?_
  simp
  refine xcall_self (by simp) hhd ?_
  simp [hbm, hat0]
  refine xcall_self (by simp) hle ?_
  simp [hh, htk]
  omega
/-! ### A queue that no call made -/
section
variable {h : List (List AV)}
end
/-! ### Two entries -/
theorem fewE_fit {e : En} (h : fewE e = true) : EnFit e := by
  unfold fewE at h
  have := of_decide_eq_true h
  exact ⟨by omega, by omega, by omega, by omega⟩
theorem fewEL_iff {l : List En} {n : Int} (h : fewEL l n = true) : (l.length : Int) ≤ n ∧ ∀ e ∈ l, EnFit e := by
  unfold fewEL at h
  rw [Bool.and_eq_true] at h
  refine ⟨of_decide_eq_true h.1, fun e he => fewE_fit (List.all_eq_true.1 h.2 e he)⟩
end Go.Proofs.Ytpogpofmakcodaa.Ax
/- Layer 21's statement: what is pushed is popped in its order, over values without memory. -/
namespace Go.Proofs.Ytpogpofmakcodaa.Ax
open Go.RowKit Go By
set_option linter.unusedSimpArgs false
set_option linter.unusedVariables false
set_option maxRecDepth 10000

def boolC (b : Bool) : List AV := [.v (.bool b)]
theorem boolC_ll (n : Nat) : ∀ l : List Bool, ltLL n (enc boolC l)
  | [] => trivial
  | b :: l => ⟨⟨trivial, trivial⟩, boolC_ll n l⟩
theorem sh_bools : Shape Try.prog 54 (fun l : List Bool => [.sl 1 (enc boolC l) none .no]) (fun l => l.length ≤ maxLen) := Shape.map (shape_slice Try.underlying54 (by kernel_rfl) (by decide) sh_bool (fun _ => rfl)) id (fun _ => rfl) (fun _ h => h.1)
theorem mid_push {l : List En} {at_ nx : Nat} (h1 : nx ≤ at_) (h2 : at_ < l.length) : (l.take at_).drop nx ++ [l[at_]] = (l.take (at_ + 1)).drop nx := by
  rw [List.take_succ_eq_append_getElem h2, List.drop_append_of_le_length (by rw [List.length_take]; omega)]
theorem mid_pop {l : List En} {at_ nx : Nat} (h1 : nx < at_) (h2 : at_ ≤ l.length) : (l.take at_).drop nx = l[nx] :: (l.take at_).drop (nx + 1) := by
  rw [List.drop_eq_getElem_cons (by rw [List.length_take]; omega)]
  simp
theorem mid_len {l : List En} {at_ nx : Nat} (h2 : at_ ≤ l.length) : ((l.take at_).drop nx).length = at_ - nx := by
  rw [List.length_drop, List.length_take]; omega
structure QO where
  H : List (List AV)
  o : Option (Nat × Nat)
  at_ : Nat
  nx : Nat
  j : Nat
structure QO.Ok (l : List En) (n : Nat) (d : QO) : Prop where
  le : d.j ≤ n
  q : QAt d.H 0 d.o 100 ((l.take d.at_).drop d.nx)
  nx : d.nx ≤ d.at_
  at_ : d.at_ ≤ l.length
set_option maxHeartbeats 4000000 in
theorem qorder_c (l : List En) (pops : List Bool) : Contract Try.prog 4 [.sl 8 (enc enC l) none .no, .sl 1 (enc boolC pops) none .no] [] (.v (.bool true)) [] [] := by
  refine contract_of k4 mixed (by simp [c4]) fun hh hargs => ?_
  have hcast : ((60 : Nat) : Int) = 60 := rfl
  have hent := entries_n l 60 (by omega) []
  rw [hcast] at hent
  simp [c4]
  refine xcall_self (by simp) hent ?_
  cases hF : fewEL l 60 with
  | false =>
    simp
    refine xcall_self (by simp) (qawake_c _) ?_
    simp
    done
  | true =>
  obtain ⟨hl60, hfit⟩ := fewEL_iff hF
  by_cases hp : 200 < (pops.length : Int)
  · simp [hp]
    refine xcall_self (by simp) (qawake_c _) ?_
    simp
    done
  have hn : Contract Try.prog 11 [.v (.int .i64 100)] [] (.tup [.box 0 0, .v (.int .i64 0)]) ([] ++ [qC none 0 100]) [] := qnew_c (most := 100) (by omega) (by omega) _
  have t0 : QAt [qC none 0 100] 0 none 100 ((l.take 0).drop 0) := newQ_at (h := []) (by simp) 100
  have hlt0 := t0.lt
  simp [hp]
  refine xcall_self (by simp) hn ?_
  simp
  refine xloop_ok (D := QO) (fun d => ⟨[(0, .sl 8 (enc enC l) none .no), (5, .box 0 0), (7, .v (.int .i64 d.at_)), (8, .v (.int .i64 d.nx)), (32, .sl 1 (enc boolC pops) none .no), (33, .v (.int .i64 pops.length)), (34, .v (.int .i64 d.j))], [], d.H, []⟩) (QO.Ok l pops.length) (fun d => pops.length - d.j) ⟨[qC none 0 100], none, 0, 0, 0⟩ ⟨Nat.zero_le _, t0, Nat.le_refl _, Nat.zero_le _⟩ ?_ ?_
  · simp at hlt0
    simp [Leq, hlt0, leqH_take, boolC_ll]
    done
  · rintro ⟨H, o, at_, nx, j⟩ ⟨hj, hq, hna, hal⟩
    dsimp only at hj hq hna hal
    have hqlt := hq.lt
    have hq0 := hq.il
    have hml := mid_len (l := l) (at_ := at_) (nx := nx) hal
    by_cases hlt : j < pops.length
    · have hw : IntKind.i64.wrap ((j : Int) + 1) = (j : Int) + 1 := wrap64 (by omega) (by omega)
      have hwa : IntKind.i64.wrap ((at_ : Int) + 1) = (at_ : Int) + 1 := wrap64 (by omega) (by omega)
      have hwn : IntKind.i64.wrap ((nx : Int) + 1) = (nx : Int) + 1 := wrap64 (by omega) (by omega)
      have popsome : nx < at_ → True := fun _ => trivial
      cases hb : pops[j] with
      | false =>
        by_cases hat : at_ < l.length
        · have e1 : enc enC [l[at_]] = [enC l[at_]] := rfl
          have hpu := qpush_c hq [l[at_]] (by intro e he; rw [List.mem_singleton.1 he]; exact hfit _ (List.getElem_mem hat)) (by omega) (by omega) (by rw [hml]; simp; omega)
          have hq2 := hq.push [l[at_]]
          rw [mid_push hna hat] at hq2
          generalize pushH H 0 o 100 ((l.take at_).drop nx) [l[at_]] = H2 at hpu hq2
          generalize apO H o [l[at_]] = o2 at hq2
          have hq2lt := hq2.lt
          have hq20 := hq2.il
          simp [hlt, hb, boolC, hat]
          refine xcall_of hpu (by simp [e1]) (by simp) ?_
          simp [hwa, hw]
          refine ⟨⟨H2, o2, at_ + 1, nx, j + 1⟩, ⟨by show j + 1 ≤ pops.length; omega, hq2, by show nx ≤ at_ + 1; omega, by show at_ + 1 ≤ l.length; omega⟩, by show pops.length - (j + 1) < pops.length - j; omega, ?_⟩
          simp [Leq, hq2lt, hq20, leqH_take, boolC_ll]
          done
        · have hat2 : at_ = l.length := by omega
          have hat3 : ¬ (at_ : Int) < l.length := by omega
          by_cases hnx : nx < at_
          · have hnl : nx < l.length := by omega
            have hfn := hfit l[nx] (List.getElem_mem hnl)
            have hq1 := hq
            rw [mid_pop hnx hal] at hq1
            have hpo := qpop_c hq1
            have hq2 := hq1.cut 1 (by simp)
            rw [List.drop_succ_cons, List.drop_zero] at hq2
            change QAt (qH H 0 o 1 (l[nx] :: (l.take at_).drop (nx + 1)).length 100) _ _ _ _ at hq2
            generalize qH H 0 o 1 (l[nx] :: (l.take at_).drop (nx + 1)).length 100 = H2 at hpo hq2
            generalize cutO o 1 = o2 at hq2
            have hq2lt := hq2.lt
            have hq20 := hq2.il
            simp [hlt, hb, boolC, hat, hat3]
            refine xcall_self (by simp) hpo ?_
            simp [hnx, hnl]
            refine xcall_self (by simp) (qsame_c _ _ hfn _) ?_
            simp [hw, hwn]
            refine ⟨⟨H2, o2, at_, nx + 1, j + 1⟩, ⟨by show j + 1 ≤ pops.length; omega, hq2, by show nx + 1 ≤ at_; omega, hal⟩, by show pops.length - (j + 1) < pops.length - j; omega, ?_⟩
            simp [Leq, hq2lt, hq20, leqH_take, boolC_ll]
            trace_state
            done
          · have hnn : nx = at_ := by omega
            have hq1 := hq
            rw [hnn, List.drop_of_length_le (by rw [List.length_take]; omega)] at hq1
            have hpo := qpop_no hq1
            simp [hlt, hb, boolC, hat, hat3]
            refine xcall_self (by simp) hpo ?_
            have hnn2 : ¬ (nx : Int) < at_ := by omega
            simp [hnn2, hnn, hw]
            refine ⟨⟨H, o, at_, nx, j + 1⟩, ⟨by show j + 1 ≤ pops.length; omega, hq, hna, hal⟩, by show pops.length - (j + 1) < pops.length - j; omega, ?_⟩
            simp [Leq, hqlt, hq0, leqH_take, boolC_ll, hnn]
            trace_state
            done
      | true =>
          by_cases hnx : nx < at_
          · have hnl : nx < l.length := by omega
            have hfn := hfit l[nx] (List.getElem_mem hnl)
            have hq1 := hq
            rw [mid_pop hnx hal] at hq1
            have hpo := qpop_c hq1
            have hq2 := hq1.cut 1 (by simp)
            rw [List.drop_succ_cons, List.drop_zero] at hq2
            change QAt (qH H 0 o 1 (l[nx] :: (l.take at_).drop (nx + 1)).length 100) _ _ _ _ at hq2
            generalize qH H 0 o 1 (l[nx] :: (l.take at_).drop (nx + 1)).length 100 = H2 at hpo hq2
            generalize cutO o 1 = o2 at hq2
            have hq2lt := hq2.lt
            have hq20 := hq2.il
            simp [hlt, hb, boolC]
            refine xcall_self (by simp) hpo ?_
            simp [hnx, hnl]
            refine xcall_self (by simp) (qsame_c _ _ hfn _) ?_
            simp [hw, hwn]
            refine ⟨⟨H2, o2, at_, nx + 1, j + 1⟩, ⟨by show j + 1 ≤ pops.length; omega, hq2, by show nx + 1 ≤ at_; omega, hal⟩, by show pops.length - (j + 1) < pops.length - j; omega, ?_⟩
            simp [Leq, hq2lt, hq20, leqH_take, boolC_ll]
            trace_state
            done
          · have hnn : nx = at_ := by omega
            have hq1 := hq
            rw [hnn, List.drop_of_length_le (by rw [List.length_take]; omega)] at hq1
            have hpo := qpop_no hq1
            simp [hlt, hb, boolC]
            refine xcall_self (by simp) hpo ?_
            have hnn2 : ¬ (nx : Int) < at_ := by omega
            simp [hnn2, hnn, hw]
            refine ⟨⟨H, o, at_, nx, j + 1⟩, ⟨by show j + 1 ≤ pops.length; omega, hq, hna, hal⟩, by show pops.length - (j + 1) < pops.length - j; omega, ?_⟩
            simp [Leq, hqlt, hq0, leqH_take, boolC_ll, hnn]
            trace_state
            done
    · have : j = pops.length := by omega
      subst this
      have hqlen := qlen_c hq
      rw [hml] at hqlen
      have hw : IntKind.i64.wrap ((at_ : Int) - nx) = (at_ : Int) - nx := wrap64 (by omega) (by omega)
      have hnn : ((at_ - nx : Nat) : Int) = (at_ : Int) - nx := by omega
      rw [hnn] at hqlen
      simp
      refine xcall_self (by simp) hqlen ?_
      simp [hw]
      refine xcall_self (by simp) (qawake_c _) ?_
      simp [hqlt]
      done
end Go.Proofs.Ytpogpofmakcodaa.Ax
namespace Go.Proofs.Ytpogpofmakcodaa.queueOrder
open Go.ChangeShapes Go.WideShapes Go.ChangeAt Go.RowKit
open Go.ChangeMaps (open_string shut_string)
set_option linter.unusedVariables false

theorem own : ownKnob Try.prog.godebug = none := by kernel_rfl
theorem laidOut : laidOutB Try.prog = true := by kernel_rfl

set_option maxRecDepth 100000 in
theorem lifted (os : Os) (started : os.Started) (H : Type) (enc : TypeId × Value → H) :
    ReturnsInHanded {} Try.checked os 4 .any (Rows.queueOrderSpec.pre6 enc Try.prog Try.f4 Rows.queueOrderRow.domain false) (Rows.queueOrderSpec.post enc Try.prog Try.f4 false true false false) := by
  refine returnsInHanded_of_change (C := Try.checked) own started (by kernel_rfl) Try.func4
    (ChangeSpec.witness6 (enc := enc) (C := Try.checked) false ⟨#[], #[.slice none 0 0, .slice none 0 0], []⟩ 8 (by kernel_rfl) (by kernel_rfl) (by kernel_rfl) (by kernel_rfl)) ?_
  intro W base args ds gs before hval0 hW hcnd _
  have hval : ∀ (j : Nat) t v, Try.f4.params[j]? = some t → args[j]? = some v → Value.okWide Try.prog W .any base t v := hval0
  have hW' := hW
  obtain ⟨p, q, hA0, hV, rfl, hfz, hnd⟩ := hW
  have hA : DataW.TrodAll enc Try.prog W 0 (fun _ => true) true Try.f4.params.toList args.toList ds p := hA0
  rw [Try.params4] at hA hval
  obtain ⟨v0, vs0, d0, ds0, p0, q0, hargs, rfl, rfl, h0, r0⟩ := trodAll_cons hA
  obtain ⟨v1, vs1, d1, ds1, p1, q1, rfl, rfl, rfl, h1, r1⟩ := trodAll_cons r0
  obtain ⟨rfl, rfl, rfl⟩ := trodAll_nil r1
  obtain rfl : args = #[v0, v1] := by cases args; simp_all
  obtain ⟨rfl, rfl⟩ := trodVars_none hV
  have k0 := h0
  have lt0 : ∀ x ∈ p0, x.block < W.heap.size := by obtain ⟨m, hm⟩ := k0; exact DataW.trod_lt m _ _ _ hm
  obtain ⟨a0, ok0, s0⟩ := Ax.arg_slice Try.underlying32 Ax.sh_enCL (hval 0 32 v0 rfl rfl) h0
  have k1 := h1
  have lt1 : ∀ x ∈ p1, x.block < W.heap.size := by obtain ⟨m, hm⟩ := k1; exact DataW.trod_lt m _ _ _ hm
  obtain ⟨a1, ok1, s1⟩ := Ax.arg_slice Try.underlying54 Ax.sh_bools (hval 1 54 v1 rfl rfl) h1
  clear hA0 hval0
  refine (Ax.law_walk (w := W) (Ax.dom_any W) (Ax.qorder_c a0 a1) (by simp) (.cons s0 (.cons s1 .nil))).mono fun e W' ⟨he, bel⟩ => ?_
  subst he
  exact ⟨_, rfl, _, _, _, [], _, [], hW', trodAll_mk1 (shut_bool Try.underlying4 _), (trodAll_cons_mk (Below.trod laidOut (by kernel_rfl) (of_decide_eq_true (by kernel_rfl)) k0 bel lt0) (trodAll_cons_mk (Below.trod laidOut (by kernel_rfl) (of_decide_eq_true (by kernel_rfl)) k1 bel lt1) trodAll_mk0)), rfl, bel.frame _, fun h => by cases h⟩

theorem over : Rows.queueOrderRow.holds Try.pinned (OpenSpec.ofChange Rows.queueOrderSpec) :=
  OpenClaim.holds_of_wide 4 Try.f4 rfl rfl rfl rfl rfl rfl rfl ⟨rfl, rfl, rfl, rfl, rfl⟩ rfl rfl rfl rfl rfl (by kernel_rfl) Try.func4 (by kernel_rfl)
    (of_decide_eq_true (by kernel_rfl)) (by unfold Func.isWrapper; first | (rw [if_pos (by decide +kernel)]; kernel_rfl) | (rw [if_neg (by decide +kernel)]; exact ⟨rfl, rfl⟩))
    (fun os started H enc _ => lifted os started H enc)

theorem proved : Rows.QueueOrderSaid := over
#print axioms proved
end Go.Proofs.Ytpogpofmakcodaa.queueOrder
