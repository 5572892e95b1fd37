/- a queue does any calls in any order as the document says -/
import Derived.Test.YtpogpofmakcodaaQAxTz
import Derived.Test.YtpogpofmakcodaaQAxBa
import Derived.Test.YtpogpofmakcodaaQAxIb
import Derived.Test.YtpogpofmakcodaaQAxQf
import Derived.Test.YtpogpofmakcodaaQCodeA
import Derived.Test.YtpogpofmakcodaaRows
import Derived.Test.YtpogpofmakcodaaQElems
import Derived.Test.YtpogpofmakcodaaQAxX
import Derived.WalkKit
import Derived.ProofKit
import Derived.OpenShut
import Derived.ShutString
import Derived.ChangeOld
import Derived.Below
/- Entries that are few, over values without memory. -/
namespace Go.Proofs.Ytpogpofmakcodaa.Ax
open Go.RowKit Go By
set_option linter.unusedSimpArgs false
set_option linter.unusedVariables false
set_option maxRecDepth 10000

/-! ### Entries that are few -/
def fewE (e : En) : Bool := decide (e.good.length ≤ 10 ∧ e.bad.length ≤ 10 ∧ e.cache.length ≤ 10 ∧ e.reply.length ≤ 300 ∧ e.from_.length ≤ 300 ∧ e.to.length ≤ 300)
def fewEL (l : List En) (n : Int) : Bool := decide ((l.length : Int) ≤ n) && l.all fewE
theorem entry_c (e : En) (h : List (List AV)) : Contract Try.prog 53 [.agg (enC e)] h (.v (.bool (!fewE e))) h [] := by
  refine contract_of k53 mixed (by simp [c53]) fun hh hargs => ?_
  simp [c53, enC_mk]
  by_cases q1 : e.good.length ≤ 10
  · have p1 : ¬ (10 : Int) < e.good.length := by omega
    by_cases q2 : e.bad.length ≤ 10
    · have p2 : ¬ (10 : Int) < e.bad.length := by omega
      by_cases q3 : e.cache.length ≤ 10
      · have p3 : ¬ (10 : Int) < e.cache.length := by omega
        by_cases q4 : e.reply.length ≤ 300
        · have p4 : ¬ (300 : Int) < e.reply.length := by omega
          by_cases q5 : e.from_.length ≤ 300
          · have p5 : ¬ (300 : Int) < e.from_.length := by omega
            by_cases q6 : e.to.length ≤ 300
            · have p6 : ¬ (300 : Int) < e.to.length := by omega
              simp [p1, p2, p3, p4, p5, p6, q1, q2, q3, q4, q5, q6, fewE, strB_size, hh]
            · have p6 : (300 : Int) < e.to.length := by omega
              simp [p1, p2, p3, p4, p5, p6, q1, q2, q3, q4, q5, q6, fewE, strB_size, hh]
          · have p5 : (300 : Int) < e.from_.length := by omega
            simp [p1, p2, p3, p4, p5, q1, q2, q3, q4, q5, fewE, strB_size, hh]
        · have p4 : (300 : Int) < e.reply.length := by omega
          simp [p1, p2, p3, p4, q1, q2, q3, q4, fewE, strB_size, hh]
      · have p3 : (10 : Int) < e.cache.length := by omega
        simp [p1, p2, p3, q1, q2, q3, fewE, hh]
    · have p2 : (10 : Int) < e.bad.length := by omega
      simp [p1, p2, q1, q2, fewE, hh]
  · have p1 : (10 : Int) < e.good.length := by omega
    simp [p1, q1, fewE, hh]
theorem entries_n (l : List En) (m : Nat) (hm : m ≤ 1000) (h : List (List AV)) : Contract Try.prog 30 [.sl 8 (enc enC l) none .no, .v (.int .i64 (m : Int))] h (.v (.bool (fewEL l m))) h [] := by
  refine contract_of k30 mixed (by simp [c30]) fun hh hargs => ?_
  by_cases hL : (m : Int) < l.length
  · have e : fewEL l m = false := by unfold fewEL; simp; intro h1; omega
    rw [e]
    simp [c30, hL, hh]
  · have e : fewEL l m = !(l.any fun e => !fewE e) := by unfold fewEL; rw [← List.not_all_eq_any_not]; simp; omega
    rw [e]
    simp [c30, hL]
    refine xcall_self (by simp) (containsN_any mixed k52 k47 enC (fun e => !fewE e) l [] _ (by simp) (by simp) (by simp) (fun e _ => entry_c e _) (by omega)) ?_
    simp [hh]
end Go.Proofs.Ytpogpofmakcodaa.Ax
/- Layer 21's statements: a queue that no call made, and two entries, over values without memory. -/
namespace Go.Proofs.Ytpogpofmakcodaa.Ax
open Go.RowKit Go By
set_option linter.unusedSimpArgs false
set_option linter.unusedVariables false
set_option maxRecDepth 10000

theorem take_of {h H : List (List AV)} (hl : h.length ≤ H.length) (hq : ∀ q, q < h.length → H[q]? = h[q]?) (more : List (List AV)) : List.take h.length (H ++ more) = h := by
  refine List.ext_getElem? fun q => ?_
  rw [List.getElem?_take]
  by_cases hlt : q < h.length
  · rw [if_pos hlt, List.getElem?_append_left (by omega), hq q hlt]
  · rw [if_neg hlt, List.getElem?_eq_none (by omega)]
def aE (k : Int) : En := { zE with kind := k }
theorem aE_fit (k : Int) : EnFit (aE k) := by simp [EnFit, aE, zE]
theorem pushH_len (h : List (List AV)) (i : Nat) (o : Option (Nat × Nat)) (most : Nat) (L l : List En) : h.length ≤ (pushH h i o most L l).length := by
  unfold pushH; rw [List.length_set]; exact apQ_len h o L l
theorem pushH_get {h : List (List AV)} {i : Nat} {o : Option (Nat × Nat)} {most : Nat} {L : List En} (l : List En) {q : Nat} (hq : q < h.length) (hi : q ≠ i) (hp : ∀ p, o = some p → q ≠ p.1) : (pushH h i o most L l)[q]? = h[q]? := by
  unfold pushH
  rw [List.getElem?_set_ne (Ne.symm hi), apQ_get hq hp]
theorem qH_len (h : List (List AV)) (i : Nat) (o : Option (Nat × Nat)) (n len most : Nat) : (qH h i o n len most).length = h.length := by unfold qH; rw [List.length_set]
theorem qH_get {h : List (List AV)} {i : Nat} {o : Option (Nat × Nat)} {n len most : Nat} {q : Nat} (hi : q ≠ i) : (qH h i o n len most)[q]? = h[q]? := by
  unfold qH; rw [List.getElem?_set_ne (Ne.symm hi)]
/-- A queue that was made and pushed to. -/
theorem qmade_at {h : List (List AV)} (hh : ltLL h.length h) (most : Nat) (l : List En) (hne : l ≠ []) : QAt (pushH (h ++ [qC none 0 most]) h.length none most [] l) h.length (some (h.length + 1, 0)) most l := by
  have h1 := (newQ_at hh most).push l
  have e : apO (h ++ [qC none 0 most]) none l = some (h.length + 1, 0) := by unfold apO; rw [if_neg hne]; simp
  rw [e] at h1
  simpa using h1
theorem qmade_get {h : List (List AV)} {most : Nat} (l : List En) {q : Nat} (hq : q < h.length) : (pushH (h ++ [qC none 0 most]) h.length none most [] l)[q]? = h[q]? := by
  rw [pushH_get l (by simp; omega) (by omega) (fun p hp => by cases hp), List.getElem?_append_left hq]
theorem qawake_c (h : List (List AV)) : Contract Try.prog 14 [] h (.v (.bool true)) h [] := by
  refine contract_of k14 mixed (by simp [c14]) fun hh hargs => ?_
  obtain ⟨l, hl⟩ : ∃ l, l = [aE 2, aE 8] := ⟨_, rfl⟩
  have hfit : ∀ e ∈ l, EnFit e := by rw [hl]; intro e he; simp at he; rcases he with rfl | rfl <;> exact aE_fit _
  have hs1 : skN l = 1 := by rw [hl]; rfl
  have hlen : l.length = 2 := by rw [hl]; rfl
  have t1 := newQ_at hh 3
  have t2 := qmade_at hh 3 l (by rw [hl]; simp)
  have hp := qpush_c t1 l hfit (by omega) (by omega) (by simp [hlen])
  have haw : apWr none l [] = [] := by unfold apWr; split <;> rfl
  rw [haw] at hp
  have hpl := pushH_len (h ++ [qC none 0 3]) h.length none 3 [] l
  have hg2 := fun q hq => qmade_get (h := h) (most := 3) l (q := q) hq
  generalize hH2 : pushH (h ++ [qC none 0 3]) h.length none 3 [] l = H2 at *
  have hsk := qskip_c t2 (by omega) rfl (by rw [hl]; simp)
  have t3 := t2.cut 1 (by omega)
  rw [hs1] at hsk
  have hH3l := qH_len H2 h.length (some (h.length + 1, 0)) 1 l.length 3
  have hg3 := fun q (hq : q ≠ h.length) => qH_get (h := H2) (i := h.length) (o := some (h.length + 1, 0)) (n := 1) (len := l.length) (most := 3) hq
  simp at hpl
  have hn : Contract Try.prog 11 [.v (.int .i64 3)] h (.tup [.box h.length 0, .v (.int .i64 0)]) (h ++ [qC none 0 3]) [] := qnew_c (most := 3) (by omega) (by omega) h
  have hd : l.drop 1 = [aE 8] := by rw [hl]; rfl
  rw [hd] at t3
  have hhd := qhead_c t3 (by intro e he; simp at he; subst he; exact aE_fit _)
  have hle := qlen_c (t3.app [enC (aE 8)] (by simp))
  have hrow : RowsAt H2 (h.length + 1) 0 l := t2.rows rfl
  have hrow3 : RowsAt (qH H2 h.length (some (h.length + 1, 0)) 1 l.length 3) (h.length + 1) 0 l := hrow.stay (hg3 _ (by omega))
  have htk : ∀ more, List.take h.length (qH H2 h.length (some (h.length + 1, 0)) 1 l.length 3 ++ more) = h := fun more => take_of (by omega) (fun q hq => by rw [hg3 q (by omega), hg2 q hq]) more
  have hlt3 := t3.lt
  change ltLL (qH H2 h.length (some (h.length + 1, 0)) 1 l.length 3).length (qH H2 h.length (some (h.length + 1, 0)) 1 l.length 3) at hlt3
  change Contract _ _ _ (qH H2 h.length (some (h.length + 1, 0)) 1 l.length 3) _ (qH H2 h.length (some (h.length + 1, 0)) 1 l.length 3) _ at hhd
  change Contract _ _ _ (qH H2 h.length (some (h.length + 1, 0)) 1 l.length 3 ++ _) _ (qH H2 h.length (some (h.length + 1, 0)) 1 l.length 3 ++ _) _ at hle
  generalize qH H2 h.length (some (h.length + 1, 0)) 1 l.length 3 = H3 at *
  obtain ⟨cs, hb, hrd⟩ := hrow3.reads
  have hfit0 := hrd.fit 0 (by omega)
  have hat0 := hrd.at_ (j := 0) (by omega) 0 (by omega)
  have e0 : l[0] = aE 2 := by simp [hl]
  rw [e0, enC_0] at hat0
  have hbm : ∀ more : List (List AV), (H3 ++ more)[h.length + 1]? = some cs := fun more => by rw [List.getElem?_append_left (List.getElem?_eq_some_iff.1 hb).1]; exact hb
  simp [aE] at hat0 hhd hle
  simp [c14]
  refine xcall_self (by simp) hn ?_
  simp
  refine xcall_of hp (by simp [hl, aE, zE, enC_mk]) (by simp) ?_
  simp
  refine xcall_self (by simp) hsk ?_
  simp
  refine xcall_self (by simp) hhd ?_
  simp [hbm, hat0]
  refine xcall_self (by simp) hle ?_
  simp [hh, htk]
  omega
/-! ### A queue that no call made -/
section
variable {h : List (List AV)}
end
/-! ### Two entries -/
theorem fewE_fit {e : En} (h : fewE e = true) : EnFit e := by
  unfold fewE at h
  have := of_decide_eq_true h
  exact ⟨by omega, by omega, by omega, by omega⟩
theorem fewEL_iff {l : List En} {n : Int} (h : fewEL l n = true) : (l.length : Int) ≤ n ∧ ∀ e ∈ l, EnFit e := by
  unfold fewEL at h
  rw [Bool.and_eq_true] at h
  refine ⟨of_decide_eq_true h.1, fun e he => fewE_fit (List.all_eq_true.1 h.2 e he)⟩
theorem hide_fit {e : En} (h : EnFit e) : EnFit (hideE e) := ⟨by simp [hideE], by simp [hideE], h.2.2.1, h.2.2.2⟩
end Go.Proofs.Ytpogpofmakcodaa.Ax
/- Layer 21's statement: a queue and the document's, side by side, over values without memory. -/
namespace Go.Proofs.Ytpogpofmakcodaa.Ax
open Go.RowKit Go By
set_option linter.unusedSimpArgs false
set_option linter.unusedVariables false
set_option maxRecDepth 10000

/-- The queue, number 0, and the document's, number 1. -/
structure Two (H : List (List AV)) (o o2 : Option (Nat × Nat)) (most : Nat) (L : List En) : Prop where
  q : QAt H 0 o most L
  x : QAt H 1 o2 most L
  a : ∀ p, o = some p → 2 ≤ p.1
  b : ∀ p, o2 = some p → 2 ≤ p.1
  ap : ∀ p p2, o = some p → o2 = some p2 → p.1 ≠ p2.1
  len : L.length ≤ most
  fit : ∀ e ∈ L, EnFit e
theorem Two.app {H : List (List AV)} {o o2 : Option (Nat × Nat)} {most : Nat} {L : List En} (ht : Two H o o2 most L) (more : List (List AV)) (hm : ltLL (H.length + more.length) more) : Two (H ++ more) o o2 most L :=
  ⟨ht.q.app more hm, ht.x.app more hm, ht.a, ht.b, ht.ap, ht.len, ht.fit⟩
theorem putH_get {h : List (List AV)} {i most : Nat} {l : List En} {q : Nat} (hq : q < h.length) (hi : q ≠ i) : (putH h i most l)[q]? = h[q]? := by
  unfold putH
  rw [List.getElem?_set_ne (Ne.symm hi), apQ_none_get hq]
theorem apO_ge {h : List (List AV)} {o : Option (Nat × Nat)} {l : List En} {p : Nat × Nat} (hp : apO h o l = some p) : o = some p ∨ p.1 = h.length := by
  unfold apO at hp
  split at hp
  · exact .inl hp
  · injection hp with hp; exact .inr (by rw [← hp])
theorem apO_none {h : List (List AV)} {l : List En} {p : Nat × Nat} (hp : apO h none l = some p) : p.1 = h.length := by
  rcases apO_ge hp with h1 | h1
  · cases h1
  · exact h1
theorem rpushH_get {h : List (List AV)} {i most : Nat} {L l : List En} {q : Nat} (hq : q < h.length) (hi : q ≠ i) : (rpushH h i most L l)[q]? = h[q]? := by
  have hl := apQ_len h none [] L
  unfold rpushH
  rw [List.getElem?_set_ne (Ne.symm hi), apQ_get (by omega) (fun p hp => by have := apO_none hp; omega), apQ_none_get hq]
theorem cutO_fst {o : Option (Nat × Nat)} {n : Nat} {p : Nat × Nat} (hp : cutO o n = some p) : ∃ p0, o = some p0 ∧ p.1 = p0.1 := by
  cases o with
  | none => cases hp
  | some q => injection hp with hp; exact ⟨q, rfl, by rw [← hp]⟩
theorem RowsAt.take {h : List (List AV)} {b off : Nat} {l : List En} (hr : RowsAt h b off l) (n : Nat) : RowsAt h b off (l.take n) := by
  obtain ⟨pre, post, h1, h2⟩ := hr
  refine ⟨pre, (enc enC (l.drop n)).flatten ++ post, h1, ?_⟩
  rw [h2]
  have e : (enc enC l).flatten = (enc enC (l.take n)).flatten ++ (enc enC (l.drop n)).flatten := by
    rw [← List.flatten_append, ← enc_app, List.take_append_drop]
  rw [e]; simp only [List.append_assoc]
section
variable {H : List (List AV)} {o o2 : Option (Nat × Nat)} {most : Nat} {L : List En}
theorem two_push (ht : Two H o o2 most L) (l : List En) (hf : ∀ e ∈ l, EnFit e) (hm1 : 1 ≤ most) (hm2 : most ≤ 4096) :
    ∃ H1 H2 o' o2' L' n wr1 wr2, Contract Try.prog 15 [.box 0 0, .sl 8 (enc enC l) none .no] H (.v (.int .i64 n)) H1 wr1 ∧ Contract Try.prog 16 [.box 1 0, .sl 8 (enc enC l) none .no] H1 (.v (.int .i64 n)) H2 wr2 ∧
      Two H2 o' o2' most L' ∧ (∀ q ∈ wr1, q = 0 ∨ ∃ p, o = some p ∧ q = p.1) ∧ (∀ q ∈ wr2, q = 1) ∧ H.length ≤ H2.length := by
  by_cases hfull : most < L.length + l.length
  · exact ⟨H, H, o, o2, L, 6, [], [], qpush_full ht.q l hm1 hm2 ht.len hfull, rpush_full ht.x l hm2 ht.len hfull, ht, (fun q hq => by cases hq), (fun q hq => by cases hq), Nat.le_refl _⟩
  · have hq := ht.q.push l
    have hil := ht.x.il
    have hl1 := pushH_len H 0 o most L l
    have hkeep : ∀ q, q < H.length → q ≠ 0 → (∀ p, o = some p → q ≠ p.1) → (pushH H 0 o most L l)[q]? = H[q]? := fun q h1 h2 h3 => pushH_get l h1 h2 h3
    have hx1 : QAt (pushH H 0 o most L l) 1 o2 most L := ht.x.move (hkeep 1 hil (by omega) (fun p hp => by have := ht.a p hp; omega)) (fun p hp => hkeep p.1 (ht.x.bl hp) (by have := ht.b p hp; omega) (fun p0 hp0 => Ne.symm (ht.ap p0 p hp0 hp))) hq.lt
    have hx2 := rpush_at hx1 l
    have hl2 : (pushH H 0 o most L l).length ≤ (rpushH (pushH H 0 o most L l) 1 most L l).length := by
      unfold rpushH
      rw [List.length_set]
      exact Nat.le_trans (apQ_len _ none [] L) (apQ_len _ _ L l)
    have hb2 : ∀ p, apO (apQ (pushH H 0 o most L l) none [] L) (apO (pushH H 0 o most L l) none L) l = some p → (pushH H 0 o most L l).length ≤ p.1 := fun p hp => by
      rcases apO_ge hp with h1 | h1
      · have := apO_none h1; omega
      · rw [h1]; exact apQ_len _ none [] L
    refine ⟨_, _, apO H o l, _, _, 0, _, _, qpush_c ht.q l hf hm1 hm2 (by omega), rpush_c hx1 l hm2 (by omega), ⟨?_, hx2, fun p hp => ?_, fun p hp => ?_, fun p p2 hp hp2 => ?_, by rw [List.length_append]; omega, fun e he => ?_⟩, fun q hq => ?_, fun q hq => by simpa using hq, by omega⟩
    · exact hq.move (rpushH_get (by omega) (by omega)) (fun p hp => rpushH_get (hq.bl hp) (fun e => by
        rcases apO_ge hp with h1 | h1
        · have := ht.a p h1; omega
        · omega)) hx2.lt
    · rcases apO_ge hp with h1 | h1
      · exact ht.a p h1
      · omega
    · have := hb2 p hp; omega
    · have h1 := hb2 p2 hp2
      have h2 := hq.bl hp
      omega
    · rcases List.mem_append.1 he with he | he
      · exact ht.fit e he
      · exact hf e he
    · rcases List.mem_cons.1 hq with hq | hq
      · exact .inl hq
      · unfold apWr at hq
        split at hq
        · cases hq
        · cases o with
          | none => cases hq
          | some p => exact .inr ⟨p, rfl, by simpa using hq⟩
theorem two_pop (ht : Two H o o2 most L) (hm2 : most ≤ 4096) :
    ∃ H1 H2 o' o2' L' e b wr1 wr2, Contract Try.prog 17 [.box 0 0] H (.tup [.agg (enC e), .v (.bool b)]) H1 wr1 ∧ Contract Try.prog 18 [.box 1 0] (H1 ++ [enC e]) (.tup [.agg (enC e), .v (.bool b)]) H2 wr2 ∧
      Two H2 o' o2' most L' ∧ EnFit e ∧ H.length + 1 ≤ H2.length ∧ H2[H.length]? = some (enC e) ∧ H1.length = H.length := by
  cases L with
  | nil =>
    have hA : Two (H ++ [enC zE]) o o2 most [] := ht.app [enC zE] (by simp)
    exact ⟨H, H ++ [enC zE], o, o2, [], zE, false, [], [], qpop_no ht.q, rpop_no hA.x, hA, by simp [EnFit, zE], by simp, by simp, rfl⟩
  | cons e l =>
    have hq := ht.q.cut 1 (by simp)
    rw [List.drop_succ_cons, List.drop_zero] at hq
    change QAt (qH H 0 o 1 (e :: l).length most) _ _ _ _ at hq
    have hl1 := qH_len H 0 o 1 (e :: l).length most
    have hg1 := fun q (h : q ≠ 0) => qH_get (h := H) (i := 0) (o := o) (n := 1) (len := (e :: l).length) (most := most) h
    have hpop := qpop_c ht.q
    generalize qH H 0 o 1 (e :: l).length most = H1 at *
    have hx1 : QAt H1 1 o2 most (e :: l) := ht.x.move (hg1 1 (by omega)) (fun p hp => hg1 p.1 (by have := ht.b p hp; omega)) hq.lt
    have hx2 := hx1.app [enC e] (by simp)
    have hrp := rpop_c hx2 (by have := ht.len; simp at this; omega)
    have hA3 := hx2.app [zEn, enC e] (by unfold zEn; simp)
    have hx3 := hA3.put l
    have hil := ht.x.il
    have hpl : (H1 ++ [enC e] ++ [zEn, enC e]).length ≤ (putH (H1 ++ [enC e] ++ [zEn, enC e]) 1 most l).length := by unfold putH; rw [List.length_set]; exact apQ_len _ none [] l
    have hpg := fun q (h : q < (H1 ++ [enC e] ++ [zEn, enC e]).length) (h2 : q ≠ 1) => putH_get (i := 1) (most := most) (l := l) h h2
    have hAl : (H1 ++ [enC e] ++ [zEn, enC e]).length = H1.length + 3 := by simp
    have hAg : ∀ q, q < H1.length → (H1 ++ [enC e] ++ [zEn, enC e])[q]? = H1[q]? := fun q h => by rw [List.append_assoc, List.getElem?_append_left h]
    have hAe : (H1 ++ [enC e] ++ [zEn, enC e])[H1.length]? = some (enC e) := by simp
    have ho2 : ∀ p, apO (H1 ++ [enC e] ++ [zEn, enC e]) none l = some p → p.1 = H1.length + 3 := fun p hp => by rw [apO_none hp, hAl]
    have hn1 : (H1 ++ [enC e]).length = H1.length + 1 := by simp
    rw [hn1] at hrp
    generalize putH (H1 ++ [enC e] ++ [zEn, enC e]) 1 most l = H2 at *
    refine ⟨H1, H2.set (H1.length + 1) (enC e), cutO o 1, apO (H1 ++ [enC e] ++ [zEn, enC e]) none l, l, e, true, _, _, hpop, hrp, ⟨?_, ?_, fun p hp => ?_, fun p hp => ?_, fun p p2 hp hp2 => ?_, by have := ht.len; simp at this; omega, fun x hx => ht.fit x (List.mem_cons_of_mem _ hx)⟩, ht.fit e (List.mem_cons_self ..), by rw [List.length_set]; omega, ?_, hl1⟩
    · refine hq.move ?_ (fun p hp => ?_) (by rw [List.length_set]; exact ltLL_set hx3.lt (by simp))
      · rw [List.getElem?_set_ne (by omega), hpg 0 (by omega) (by omega), hAg 0 (by omega)]
      · have h1 := hq.bl hp
        obtain ⟨p0, h2, h3⟩ := cutO_fst hp
        have := ht.a p0 h2
        rw [List.getElem?_set_ne (by omega), hpg p.1 (by omega) (by omega), hAg p.1 h1]
    · refine hx3.move (List.getElem?_set_ne (by omega)) (fun p hp => ?_) (by rw [List.length_set]; exact ltLL_set hx3.lt (by simp))
      have := ho2 p hp
      exact List.getElem?_set_ne (by omega)
    · obtain ⟨p0, h2, h3⟩ := cutO_fst hp
      have := ht.a p0 h2; omega
    · have := ho2 p hp; omega
    · have h1 := hq.bl hp
      have := ho2 p2 hp2; omega
    · rw [List.getElem?_set_ne (by omega), hpg H.length (by omega) (by omega), ← hl1, hAe]
theorem two_skip (ht : Two H o o2 most L) (hm2 : most ≤ 4096) :
    ∃ H1 H2 o' o2' L' v v2 M wr1 wr2, Contract Try.prog 21 [.box 0 0] H v H1 wr1 ∧ Contract Try.prog 22 [.box 1 0] H1 v2 H2 wr2 ∧
      Two H2 o' o2' most L' ∧ EAt H2 v M ∧ EAt H2 v2 M ∧ M.length ≤ most ∧ (∀ e ∈ M, EnFit e) ∧ H.length ≤ H2.length := by
  have hlen := ht.len
  have hle := skN_le L
  by_cases hL : L = []
  · subst hL
    have hr := rskip_c ht.x (by simp)
    have hx2 := rskip_at ht.x
    have hout := rskip_out ht.x
    have hput : rskipH H 1 most [] = putH H 1 most [] := by
      unfold rskipH; simp only [List.take_nil, List.drop_nil]
      have : apQ H none [] ([] : List En) = H := if_pos rfl
      rw [this]
    have hg := fun q (h : q < H.length) (h2 : q ≠ 1) => putH_get (i := 1) (most := most) (l := ([] : List En)) h h2
    have hl2 : H.length ≤ (rskipH H 1 most []).length := by rw [hput]; unfold putH; rw [List.length_set]; exact apQ_len _ none [] []
    rw [← hput] at hg
    simp only [List.take_nil, List.drop_nil] at hr hx2 hout
    have ho2 : apO (apQ H none [] ([] : List En)) none ([] : List En) = none := if_pos rfl
    rw [ho2] at hx2
    have hil := ht.q.il
    refine ⟨H, _, o, none, [], _, _, [], [], _, qskip_no ht.q, hr, ⟨ht.q.move (hg 0 hil (by omega)) (fun p hp => hg p.1 (ht.q.bl hp) (by have := ht.a p hp; omega)) hx2.lt, hx2, ht.a, fun p hp => (by cases hp), fun p p2 hp hp2 => (by cases hp2), by simp, fun e he => by cases he⟩, .inr (.inl ⟨rfl, rfl⟩), hout, by simp, (fun e he => by cases he), hl2⟩
  · obtain ⟨p, rfl⟩ := ht.q.some_of hL
    have hq := ht.q.cut (skN L) hle
    change QAt (qH H 0 (some p) (skN L) L.length most) _ _ _ _ at hq
    have hl1 := qH_len H 0 (some p) (skN L) L.length most
    have hg1 := fun q (h : q ≠ 0) => qH_get (h := H) (i := 0) (o := some p) (n := skN L) (len := L.length) (most := most) h
    have hsk := qskip_c ht.q (by omega) rfl hL
    have hrow : RowsAt H p.1 p.2 (L.take (skN L)) := (ht.q.rows rfl).take _
    have hp2 := ht.a p rfl
    generalize qH H 0 (some p) (skN L) L.length most = H1 at *
    have hx1 : QAt H1 1 o2 most L := ht.x.move (hg1 1 (by omega)) (fun p hp => hg1 p.1 (by have := ht.b p hp; omega)) hq.lt
    have hr := rskip_c hx1 (by omega)
    have hx2 := rskip_at hx1
    have hout := rskip_out hx1
    have hil := ht.q.il
    have hq0 := apQ_len H1 none [] (L.take (skN L))
    have hl2 : H1.length ≤ (rskipH H1 1 most L).length := by unfold rskipH putH; rw [List.length_set]; exact Nat.le_trans hq0 (apQ_len _ none [] _)
    have hg2 : ∀ q, q < H1.length → q ≠ 1 → (rskipH H1 1 most L)[q]? = H1[q]? := fun q h h2 => by
      unfold rskipH; rw [putH_get (by omega) h2, apQ_none_get h]
    have hb2 : ∀ p2, apO (apQ H1 none [] (L.take (skN L))) none (L.drop (skN L)) = some p2 → H1.length ≤ p2.1 := fun p2 h => by rw [apO_none h]; exact hq0
    have htl : (L.take (skN L)).length = skN L := by rw [List.length_take]; omega
    generalize rskipH H1 1 most L = H2 at *
    have hbl := ht.q.bl rfl
    refine ⟨H1, H2, cutO (some p) (skN L), apO (apQ H1 none [] (L.take (skN L))) none (L.drop (skN L)), L.drop (skN L), _, _, L.take (skN L), _, _, hsk, hr, ⟨hq.move (hg2 0 (by omega) (by omega)) (fun p' hp' => ?_) hx2.lt, hx2, fun p' hp' => ?_, fun p' hp' => ?_, fun p' p2 hp' hp2' => ?_, by rw [List.length_drop]; omega, fun e he => ht.fit e (List.mem_of_mem_drop he)⟩, .inr (.inr ⟨p.1, p.2, by rw [htl], ?_⟩), hout, by omega, (fun e he => ht.fit e (List.mem_of_mem_take he)), by omega⟩
    · obtain ⟨p0, h2, h3⟩ := cutO_fst hp'
      injection h2 with h2
      subst h2
      exact hg2 p'.1 (by omega) (by omega)
    · obtain ⟨p0, h2, h3⟩ := cutO_fst hp'
      injection h2 with h2
      subst h2; omega
    · have := hb2 p' hp'; omega
    · obtain ⟨p0, h2, h3⟩ := cutO_fst hp'
      injection h2 with h2
      subst h2
      have := hb2 p2 hp2'; omega
    · exact (hrow.stay (hg1 p.1 (by omega))).stay (hg2 p.1 (by omega) (by omega))
theorem two_hide (ht : Two H o o2 most L) (hm2 : most ≤ 4096) :
    ∃ H1 H2 L' wr1 wr2, Contract Try.prog 24 [.box 0 0] H (.sl 1 (enc intC (qidsL L)) none .no) H1 wr1 ∧ Contract Try.prog 25 [.box 1 0] H1 (.sl 1 (enc intC (qidsL L)) none .no) H2 wr2 ∧
      Two H2 o o2 most L' ∧ H.length ≤ H2.length := by
  obtain ⟨H1, c1, q1, l1, g1⟩ := qhide_c ht.q (by have := ht.len; omega) ht.fit
  have hx1 : QAt H1 1 o2 most L := ht.x.move (g1 1 (fun p hp => by have := ht.a p hp; omega)) (fun p hp => g1 p.1 (fun p0 hp0 => Ne.symm (ht.ap p0 p hp0 hp))) q1.lt
  obtain ⟨H2, c2, x2, l2, g2⟩ := rhide_c hx1 (by have := ht.len; omega) ht.fit
  refine ⟨H1, H2, L.map hideE, _, _, c1, c2, ⟨q1.move (g2 0 (fun p hp => by have := ht.b p hp; omega)) (fun p hp => g2 p.1 (fun p0 hp0 => ht.ap p p0 hp hp0)) x2.lt, x2, ht.a, ht.b, ht.ap, by rw [List.length_map]; exact ht.len, fun e he => ?_⟩, by omega⟩
  obtain ⟨x, hx, rfl⟩ := List.mem_map.1 he
  exact hide_fit (ht.fit x hx)
end
end Go.Proofs.Ytpogpofmakcodaa.Ax
/- Layer 21's statement: a queue lives as the document's does. -/
namespace Go.Proofs.Ytpogpofmakcodaa.Ax
open Go.RowKit Go By
set_option linter.unusedSimpArgs false
set_option linter.unusedVariables false
set_option maxRecDepth 10000

/-- A call. -/
structure Dq where
  op : Int
  l : List En
def dqC (d : Dq) : List AV := [.v (.int .i64 d.op), .sl 8 (enc enC d.l) none .no]
@[simp] theorem dqC_len (d : Dq) : (dqC d).length = 2 := of_eq_true (eq_self _)
@[simp] theorem dqC_unown (d : Dq) : (dqC d).map AV.unown = dqC d := of_eq_true (eq_self _)
@[simp] theorem dqC_g0 (d : Dq) (h : 0 < (dqC d).length) : (dqC d)[0] = .v (.int .i64 d.op) := of_eq_true (eq_self _)
@[simp] theorem dqC_g1 (d : Dq) (h : 1 < (dqC d).length) : (dqC d)[1] = .sl 8 (enc enC d.l) none .no := of_eq_true (eq_self _)
theorem dqC_mk (d : Dq) : dqC d = [.v (.int .i64 d.op), .sl 8 (enc enC d.l) none .no] := rfl
@[simp] theorem dqC_lt (n : Nat) (d : Dq) : ltL n (dqC d) := by simp [dqC_mk]
def OkDq (d : Dq) : Prop := (-9223372036854775808 ≤ d.op ∧ d.op ≤ 9223372036854775807) ∧ d.l.length ≤ maxLen ∧ ∀ x ∈ d.l, OkEn x
theorem sh_dqC : Shape Try.prog 34 dqC OkDq :=
  Shape.map (shape_struct Try.underlying34 (by kernel_rfl) (shape_cons (k := 1) rfl (by kernel_rfl) sh_int (by kernel_rfl) (shape_one (k := 1) rfl (by kernel_rfl) sh_enCL))) (fun p => ⟨p.1, p.2⟩) (fun _ => rfl) (fun _ h => h)
theorem sh_dqCL : Shape Try.prog 22 (fun l : List Dq => [.sl 2 (enc dqC l) none .no]) (fun l => l.length ≤ maxLen ∧ ∀ d ∈ l, OkDq d) := shape_slice Try.underlying22 (by kernel_rfl) (by decide) sh_dqC (fun _ => rfl)
theorem dqC_ll (n : Nat) : ∀ l : List Dq, ltLL n (enc dqC l)
  | [] => trivial
  | d :: l => ⟨dqC_lt n d, dqC_ll n l⟩
def fewD (l : List Dq) : Bool := decide (l.length ≤ 40) && l.all fun d => fewEL d.l 6
theorem fewD_iff {l : List Dq} (h : fewD l = true) : l.length ≤ 40 ∧ ∀ d ∈ l, d.l.length ≤ 6 ∧ ∀ e ∈ d.l, EnFit e := by
  unfold fewD at h
  rw [Bool.and_eq_true] at h
  refine ⟨of_decide_eq_true h.1, fun d hd => ?_⟩
  obtain ⟨h1, h2⟩ := fewEL_iff (List.all_eq_true.1 h.2 d hd)
  exact ⟨by omega, h2⟩
theorem fewd_c (l : List Dq) (h : List (List AV)) : Contract Try.prog 13 [.sl 2 (enc dqC l) none .no] h (.v (.bool (fewD l))) h [] := by
  refine contract_of k13 mixed (by simp [c13]) fun hh hargs => ?_
  have hcast : ((6 : Nat) : Int) = 6 := rfl
  simp [c13]
  refine xloop_ok (D := Nat) (fun j => ⟨[(5, .sl 2 (enc dqC l) none .no), (6, .v (.int .i64 l.length)), (7, .v (.int .i64 j))], [], h, []⟩) (fun j => j ≤ l.length ∧ j ≤ 40 ∧ ∀ d ∈ l.take j, fewEL d.l 6 = true) (fun j => l.length - j) 0 ⟨by omega, by omega, by simp⟩ ?_ ?_
  · simp [Leq, hh, leqH_take, dqC_ll]
    done
  · rintro j ⟨hj, hj40, hp⟩
    by_cases hlt : j < l.length
    · have hw : IntKind.i64.wrap ((j : Int) + 1) = (j : Int) + 1 := wrap64 (by omega) (by omega)
      by_cases h40 : j = 40
      · subst h40
        have hF : fewD l = false := by unfold fewD; rw [decide_eq_false (by omega)]; rfl
        have hlt4 : (40 : Int) < l.length := by omega
        simp [hlt, hlt4, hF, hh, leqH_take]
        done
      · have h41 : ¬ (40 : Int) ≤ j := by omega
        have hent := entries_n l[j].l 6 (by omega) (h ++ [dqC l[j]])
        rw [hcast] at hent
        simp [hlt, h41]
        refine xcall_self (by simp) hent ?_
        cases hE : fewEL l[j].l 6 with
        | false =>
          have hF : fewD l = false := by
            cases hx : fewD l with
            | false => rfl
            | true =>
              unfold fewD at hx
              rw [Bool.and_eq_true] at hx
              have := List.all_eq_true.1 hx.2 _ (List.getElem_mem hlt)
              rw [hE] at this; cases this
          simp [hF, hh, leqH_take]
          done
        | true =>
          simp [hw]
          refine ⟨j + 1, ⟨by omega, by omega, fun d hd => ?_⟩, by omega, ?_⟩
          · rw [List.take_succ_eq_append_getElem hlt] at hd
            rcases List.mem_append.1 hd with hd | hd
            · exact hp d hd
            · rw [List.mem_singleton.1 hd]; exact hE
          · simp [Leq, hh, leqH_take, dqC_ll]
            done
    · have : j = l.length := by omega
      subst this
      have hF : fewD l = true := by
        unfold fewD
        rw [decide_eq_true (by omega)]
        rw [List.take_length] at hp
        rw [Bool.true_and]
        exact List.all_eq_true.2 hp
      simp [hF, hh]
      done
theorem QAt.eat {h : List (List AV)} {i most : Nat} {o : Option (Nat × Nat)} {L : List En} (ht : QAt h i o most L) : EAt h (qV o L.length) L := by
  cases o with
  | none => exact .inr (.inl ⟨ht.emp rfl, by rw [ht.emp rfl]; rfl⟩)
  | some p => exact .inr (.inr ⟨p.1, p.2, rfl, ht.rows rfl⟩)
structure QL where
  H : List (List AV)
  o : Option (Nat × Nat)
  o2 : Option (Nat × Nat)
  L : List En
  j : Nat
structure QL.Ok (n most : Nat) (d : QL) : Prop where
  le : d.j ≤ n
  two : Two d.H d.o d.o2 most d.L
set_option maxHeartbeats 4000000 in
theorem qlives_c (most : Int) (l : List Dq) : Contract Try.prog 3 [.v (.int .i64 most), .sl 2 (enc dqC l) none .no] [] (.v (.bool true)) [] [] := by
  refine contract_of k3 mixed (by simp [c3]) fun hh hargs => ?_
  simp [c3]
  by_cases hm : most < 1 ∨ most > 4096
  · refine xcall_self (by simp) (qnew_no hm _) ?_
    simp
    refine xcall_self (by simp) (rqnew_no hm _) ?_
    simp
    refine xcall_self (by simp) (qawake_c _) ?_
    simp
    done
  obtain ⟨m, rfl⟩ : ∃ m : Nat, most = (m : Int) := ⟨most.toNat, by omega⟩
  have hm1 : 1 ≤ m := by omega
  have hm2 : m ≤ 4096 := by omega
  have hn1 : Contract Try.prog 11 [.v (.int .i64 (m : Int))] [] (.tup [.box 0 0, .v (.int .i64 0)]) [qC none 0 m] [] := qnew_c hm1 hm2 []
  have hn2 : Contract Try.prog 12 [.v (.int .i64 (m : Int))] [qC none 0 m] (.tup [.box 1 0, .v (.int .i64 0)]) [qC none 0 m, qC none 0 m] [] := rqnew_c hm1 hm2 [qC none 0 m]
  have q0 : QAt [qC none 0 m] 0 none m [] := newQ_at (h := []) (by simp) m
  have q1 : QAt [qC none 0 m, qC none 0 m] 0 none m [] := q0.app [qC none 0 m] (by simp [qC, qV])
  have x1 : QAt [qC none 0 m, qC none 0 m] 1 none m [] := newQ_at (h := [qC none 0 m]) q0.lt m
  have t0 : Two [qC none 0 m, qC none 0 m] none none m [] := ⟨q1, x1, fun p hp => (by cases hp), fun p hp => (by cases hp), fun p p2 hp => (by cases hp), by simp, fun e he => by cases he⟩
  have hlt0 := q1.lt
  refine xcall_self (by simp) hn1 ?_
  simp
  refine xcall_self (by simp) hn2 ?_
  simp
  refine xcall_self (by simp) (fewd_c l _) ?_
  cases hF : fewD l with
  | false =>
    simp
    refine xcall_self (by simp) (qawake_c _) ?_
    simp
    done
  | true =>
  obtain ⟨hl40, hfit⟩ := fewD_iff hF
  simp
  refine xloop_ok (D := QL) (fun d => ⟨[(5, .box 0 0), (7, .box 1 0), (46, .sl 2 (enc dqC l) none .no), (47, .v (.int .i64 l.length)), (48, .v (.int .i64 d.j))], [], d.H, []⟩) (QL.Ok l.length m) (fun d => l.length - d.j) ⟨[qC none 0 m, qC none 0 m], none, none, [], 0⟩ ⟨Nat.zero_le _, t0⟩ ?_ ?_
  · simp at hlt0
    simp [Leq, hlt0, leqH_take, dqC_ll]
    done
  · rintro ⟨H, o, o2, L, j⟩ ⟨hj, ht⟩
    dsimp only at hj ht
    by_cases hlt : j < l.length
    · obtain ⟨hd6, hdf⟩ := hfit l[j] (List.getElem_mem hlt)
      have hw : IntKind.i64.wrap ((j : Int) + 1) = (j : Int) + 1 := wrap64 (by omega) (by omega)
      have hnext : j + 1 ≤ l.length := hlt
      have hmu : l.length - (j + 1) < l.length - j := by omega
      have tA := ht.app [dqC l[j]] (by simp)
      have hk : (H ++ [dqC l[j]])[H.length]? = some (dqC l[j]) := by simp
      have hAl : (H ++ [dqC l[j]]).length = H.length + 1 := by simp
      have hil := ht.x.il
      by_cases h0 : l[j].op = 0
      · obtain ⟨H1, H2, o', o2', L', n, wr1, wr2, k1, k2, t2, hwr1, hwr2, hl2⟩ := two_push tA l[j].l hdf hm1 hm2
        have hw1 : H.length ∉ wr1 := fun hq => by
          rcases hwr1 _ hq with h1 | ⟨p, hp, h1⟩
          · omega
          · have := ht.q.bl hp; omega
        have hw2 : H.length ∉ wr2 := fun hq => by have := hwr2 _ hq; omega
        simp [hlt, h0]
        refine xcall_self (by simp) k1 ?_
        simp [hw1, hw2]
        refine xcall_self (by simp) k2 ?_
        simp [hw1, hw2]
        have tT := t2
        have hhd := qhead_c tT.q tT.fit
        obtain ⟨e0, he0⟩ : ∃ e0, e0 = L'.headD zE := ⟨_, rfl⟩
        rw [← he0] at hhd
        have tB := tT.app [enC e0] (by simp)
        have hxt := tB.x.top
        have hxl := qV_len o2' L'.length tB.x.o_len
        have hxi := qV_id o2' L'.length
        have hLm := tB.len
        have hlist := qlist_c tB.q (by omega) tB.fit
        have hlenc := qlen_c tB.q
        have heat := tB.x.eat
        have hBl := tB.q.lt
        have hB2 := tB.x.il
        have hB0 := tB.q.il
        simp only [qC] at hxt
        refine xcall_self (by simp) hhd ?_
        simp [-vLenL, hxt, hxi]
        refine xcall_self (by simp) hlist ?_
        simp [-vLenL]
        refine xall (EAt.sl _ _) heat (by omega) tB.fit tB.fit ?_
        simp [-vLenL, hxt, hxi, hxl]
        refine xcall_self (by simp) hlenc ?_
        by_cases hL : L' = []
        · subst hL
          have hxi0 := qV_id o2' 0
          have hxl0 := qV_len o2' 0 (fun _ => rfl)
          have hxt0 := hxt
          simp only [List.length_nil] at hxt0
          simp [-vLenL, hxt0, hxi0, hxl0, hw]
          refine ⟨⟨_, o', o2', [], j + 1⟩, ⟨hnext, tB⟩, hmu, ?_⟩
          simp at hBl hB0 hB2
          simp [Leq, hBl, hB0, hB2, leqH_take, dqC_ll]
          try omega
        · obtain ⟨p2, rfl⟩ := tB.x.some_of hL
          have hlen0 : 0 < L'.length := List.length_pos_iff.2 hL
          obtain ⟨cs, hb, hrd⟩ := (tB.x.rows rfl).reads
          have hone := hrd.one 0 hlen0
          have hfit0 := hrd.fit 0 hlen0
          simp at hone hfit0
          have hh0 := List.headD_drop0 L' zE hlen0
          rw [← he0] at hh0
          have hfe := tB.fit _ (List.getElem_mem hlen0)
          simp [-vLenL, hxt, hxi, hxl, hlen0, qV, hb, hone, hfit0, vLenL_bsl]
          refine xcall_self (by simp) (rsame21_c e0 L'[0] (by rw [← hh0]; exact hfe) hfe _) ?_
          simp [hh0, hw]
          refine ⟨⟨_, o', some p2, L', j + 1⟩, ⟨hnext, tB⟩, hmu, ?_⟩
          simp at hBl hB0 hB2
          simp [Leq, hBl, hB0, hB2, leqH_take, dqC_ll]
          try omega
      by_cases h1 : l[j].op = 1
      · obtain ⟨H1, H2, o', o2', L', n, wr1, wr2, k1, k2, t2, hwr1, hwr2, hl2⟩ := two_push tA l[j].l hdf hm1 hm2
        have hw1 : H.length ∉ wr1 := fun hq => by
          rcases hwr1 _ hq with h1 | ⟨p, hp, h1⟩
          · omega
          · have := ht.q.bl hp; omega
        have hw2 : H.length ∉ wr2 := fun hq => by have := hwr2 _ hq; omega
        simp [hlt, h1]
        refine xcall_self (by simp) k1 ?_
        simp [hw1, hw2]
        refine xcall_self (by simp) k2 ?_
        simp [hw1, hw2]
        have tT := t2
        have hhd := qhead_c tT.q tT.fit
        obtain ⟨e0, he0⟩ : ∃ e0, e0 = L'.headD zE := ⟨_, rfl⟩
        rw [← he0] at hhd
        have tB := tT.app [enC e0] (by simp)
        have hxt := tB.x.top
        have hxl := qV_len o2' L'.length tB.x.o_len
        have hxi := qV_id o2' L'.length
        have hLm := tB.len
        have hlist := qlist_c tB.q (by omega) tB.fit
        have hlenc := qlen_c tB.q
        have heat := tB.x.eat
        have hBl := tB.q.lt
        have hB2 := tB.x.il
        have hB0 := tB.q.il
        simp only [qC] at hxt
        refine xcall_self (by simp) hhd ?_
        simp [-vLenL, hxt, hxi]
        refine xcall_self (by simp) hlist ?_
        simp [-vLenL]
        refine xall (EAt.sl _ _) heat (by omega) tB.fit tB.fit ?_
        simp [-vLenL, hxt, hxi, hxl]
        refine xcall_self (by simp) hlenc ?_
        by_cases hL : L' = []
        · subst hL
          have hxi0 := qV_id o2' 0
          have hxl0 := qV_len o2' 0 (fun _ => rfl)
          have hxt0 := hxt
          simp only [List.length_nil] at hxt0
          simp [-vLenL, hxt0, hxi0, hxl0, hw]
          refine ⟨⟨_, o', o2', [], j + 1⟩, ⟨hnext, tB⟩, hmu, ?_⟩
          simp at hBl hB0 hB2
          simp [Leq, hBl, hB0, hB2, leqH_take, dqC_ll]
          try omega
        · obtain ⟨p2, rfl⟩ := tB.x.some_of hL
          have hlen0 : 0 < L'.length := List.length_pos_iff.2 hL
          obtain ⟨cs, hb, hrd⟩ := (tB.x.rows rfl).reads
          have hone := hrd.one 0 hlen0
          have hfit0 := hrd.fit 0 hlen0
          simp at hone hfit0
          have hh0 := List.headD_drop0 L' zE hlen0
          rw [← he0] at hh0
          have hfe := tB.fit _ (List.getElem_mem hlen0)
          simp [-vLenL, hxt, hxi, hxl, hlen0, qV, hb, hone, hfit0, vLenL_bsl]
          refine xcall_self (by simp) (rsame21_c e0 L'[0] (by rw [← hh0]; exact hfe) hfe _) ?_
          simp [hh0, hw]
          refine ⟨⟨_, o', some p2, L', j + 1⟩, ⟨hnext, tB⟩, hmu, ?_⟩
          simp at hBl hB0 hB2
          simp [Leq, hBl, hB0, hB2, leqH_take, dqC_ll]
          try omega
      by_cases h2 : l[j].op = 2
      · obtain ⟨H1, H2, o', o2', L', n, wr1, wr2, k1, k2, t2, hwr1, hwr2, hl2⟩ := two_push tA l[j].l hdf hm1 hm2
        have hw1 : H.length ∉ wr1 := fun hq => by
          rcases hwr1 _ hq with h1 | ⟨p, hp, h1⟩
          · omega
          · have := ht.q.bl hp; omega
        have hw2 : H.length ∉ wr2 := fun hq => by have := hwr2 _ hq; omega
        simp [hlt, h2]
        refine xcall_self (by simp) k1 ?_
        simp [hw1, hw2]
        refine xcall_self (by simp) k2 ?_
        simp [hw1, hw2]
        have tT := t2
        have hhd := qhead_c tT.q tT.fit
        obtain ⟨e0, he0⟩ : ∃ e0, e0 = L'.headD zE := ⟨_, rfl⟩
        rw [← he0] at hhd
        have tB := tT.app [enC e0] (by simp)
        have hxt := tB.x.top
        have hxl := qV_len o2' L'.length tB.x.o_len
        have hxi := qV_id o2' L'.length
        have hLm := tB.len
        have hlist := qlist_c tB.q (by omega) tB.fit
        have hlenc := qlen_c tB.q
        have heat := tB.x.eat
        have hBl := tB.q.lt
        have hB2 := tB.x.il
        have hB0 := tB.q.il
        simp only [qC] at hxt
        refine xcall_self (by simp) hhd ?_
        simp [-vLenL, hxt, hxi]
        refine xcall_self (by simp) hlist ?_
        simp [-vLenL]
        refine xall (EAt.sl _ _) heat (by omega) tB.fit tB.fit ?_
        simp [-vLenL, hxt, hxi, hxl]
        refine xcall_self (by simp) hlenc ?_
        by_cases hL : L' = []
        · subst hL
          have hxi0 := qV_id o2' 0
          have hxl0 := qV_len o2' 0 (fun _ => rfl)
          have hxt0 := hxt
          simp only [List.length_nil] at hxt0
          simp [-vLenL, hxt0, hxi0, hxl0, hw]
          refine ⟨⟨_, o', o2', [], j + 1⟩, ⟨hnext, tB⟩, hmu, ?_⟩
          simp at hBl hB0 hB2
          simp [Leq, hBl, hB0, hB2, leqH_take, dqC_ll]
          try omega
        · obtain ⟨p2, rfl⟩ := tB.x.some_of hL
          have hlen0 : 0 < L'.length := List.length_pos_iff.2 hL
          obtain ⟨cs, hb, hrd⟩ := (tB.x.rows rfl).reads
          have hone := hrd.one 0 hlen0
          have hfit0 := hrd.fit 0 hlen0
          simp at hone hfit0
          have hh0 := List.headD_drop0 L' zE hlen0
          rw [← he0] at hh0
          have hfe := tB.fit _ (List.getElem_mem hlen0)
          simp [-vLenL, hxt, hxi, hxl, hlen0, qV, hb, hone, hfit0, vLenL_bsl]
          refine xcall_self (by simp) (rsame21_c e0 L'[0] (by rw [← hh0]; exact hfe) hfe _) ?_
          simp [hh0, hw]
          refine ⟨⟨_, o', some p2, L', j + 1⟩, ⟨hnext, tB⟩, hmu, ?_⟩
          simp at hBl hB0 hB2
          simp [Leq, hBl, hB0, hB2, leqH_take, dqC_ll]
          try omega
      by_cases h3 : l[j].op = 3
      · obtain ⟨H1, H2, o', o2', L', e, b, wr1, wr2, k1, k2, t2, hfe, hl2, hge, hH1⟩ := two_pop tA hm2
        have t3 := t2.app [enC e] (by simp)
        have hgi : H1.length < H2.length := by omega
        have hgm : ∀ more : List (List AV), (H2 ++ more)[H1.length]? = some (enC e) := fun more => by rw [List.getElem?_append_left hgi, hH1]; exact hge
        simp [hlt, h3]
        refine xcall_self (by simp) k1 ?_
        simp
        refine xcall_self (by simp) k2 ?_
        simp [hgm]
        refine xcall_self (by simp) (qsame_c e e hfe _) ?_
        simp
        generalize H2 ++ [enC e] = H3 at *
        have tT := t3
        have hhd := qhead_c tT.q tT.fit
        obtain ⟨e0, he0⟩ : ∃ e0, e0 = L'.headD zE := ⟨_, rfl⟩
        rw [← he0] at hhd
        have tB := tT.app [enC e0] (by simp)
        have hxt := tB.x.top
        have hxl := qV_len o2' L'.length tB.x.o_len
        have hxi := qV_id o2' L'.length
        have hLm := tB.len
        have hlist := qlist_c tB.q (by omega) tB.fit
        have hlenc := qlen_c tB.q
        have heat := tB.x.eat
        have hBl := tB.q.lt
        have hB2 := tB.x.il
        have hB0 := tB.q.il
        simp only [qC] at hxt
        refine xcall_self (by simp) hhd ?_
        simp [-vLenL, hxt, hxi]
        refine xcall_self (by simp) hlist ?_
        simp [-vLenL]
        refine xall (EAt.sl _ _) heat (by omega) tB.fit tB.fit ?_
        simp [-vLenL, hxt, hxi, hxl]
        refine xcall_self (by simp) hlenc ?_
        by_cases hL : L' = []
        · subst hL
          have hxi0 := qV_id o2' 0
          have hxl0 := qV_len o2' 0 (fun _ => rfl)
          have hxt0 := hxt
          simp only [List.length_nil] at hxt0
          simp [-vLenL, hxt0, hxi0, hxl0, hw]
          refine ⟨⟨_, o', o2', [], j + 1⟩, ⟨hnext, tB⟩, hmu, ?_⟩
          simp at hBl hB0 hB2
          simp [Leq, hBl, hB0, hB2, leqH_take, dqC_ll]
          try omega
        · obtain ⟨p2, rfl⟩ := tB.x.some_of hL
          have hlen0 : 0 < L'.length := List.length_pos_iff.2 hL
          obtain ⟨cs, hb, hrd⟩ := (tB.x.rows rfl).reads
          have hone := hrd.one 0 hlen0
          have hfit0 := hrd.fit 0 hlen0
          simp at hone hfit0
          have hh0 := List.headD_drop0 L' zE hlen0
          rw [← he0] at hh0
          have hfe := tB.fit _ (List.getElem_mem hlen0)
          simp [-vLenL, hxt, hxi, hxl, hlen0, qV, hb, hone, hfit0, vLenL_bsl]
          refine xcall_self (by simp) (rsame21_c e0 L'[0] (by rw [← hh0]; exact hfe) hfe _) ?_
          simp [hh0, hw]
          refine ⟨⟨_, o', some p2, L', j + 1⟩, ⟨hnext, tB⟩, hmu, ?_⟩
          simp at hBl hB0 hB2
          simp [Leq, hBl, hB0, hB2, leqH_take, dqC_ll]
          try omega
      by_cases h4 : l[j].op = 4
      · obtain ⟨H1, H2, o', o2', L', v, v2, M, wr1, wr2, k1, k2, t2, ev, ev2, hMl, hMf, hl2⟩ := two_skip tA hm2
        have i1 := ev.id
        have i2 := ev2.id
        have u1 := ev.unown
        have u2 := ev2.unown
        simp [hlt, h4]
        refine xcall_self (by simp) k1 ?_
        simp [i1, u1]
        refine xcall_self (by simp) k2 ?_
        simp [i1, u1, i2, u2]
        refine xall ev ev2 (by omega) hMf hMf ?_
        simp
        have tT := t2
        have hhd := qhead_c tT.q tT.fit
        obtain ⟨e0, he0⟩ : ∃ e0, e0 = L'.headD zE := ⟨_, rfl⟩
        rw [← he0] at hhd
        have tB := tT.app [enC e0] (by simp)
        have hxt := tB.x.top
        have hxl := qV_len o2' L'.length tB.x.o_len
        have hxi := qV_id o2' L'.length
        have hLm := tB.len
        have hlist := qlist_c tB.q (by omega) tB.fit
        have hlenc := qlen_c tB.q
        have heat := tB.x.eat
        have hBl := tB.q.lt
        have hB2 := tB.x.il
        have hB0 := tB.q.il
        simp only [qC] at hxt
        refine xcall_self (by simp) hhd ?_
        simp [-vLenL, hxt, hxi]
        refine xcall_self (by simp) hlist ?_
        simp [-vLenL]
        refine xall (EAt.sl _ _) heat (by omega) tB.fit tB.fit ?_
        simp [-vLenL, hxt, hxi, hxl]
        refine xcall_self (by simp) hlenc ?_
        by_cases hL : L' = []
        · subst hL
          have hxi0 := qV_id o2' 0
          have hxl0 := qV_len o2' 0 (fun _ => rfl)
          have hxt0 := hxt
          simp only [List.length_nil] at hxt0
          simp [-vLenL, hxt0, hxi0, hxl0, hw]
          refine ⟨⟨_, o', o2', [], j + 1⟩, ⟨hnext, tB⟩, hmu, ?_⟩
          simp at hBl hB0 hB2
          simp [Leq, hBl, hB0, hB2, leqH_take, dqC_ll]
          try omega
        · obtain ⟨p2, rfl⟩ := tB.x.some_of hL
          have hlen0 : 0 < L'.length := List.length_pos_iff.2 hL
          obtain ⟨cs, hb, hrd⟩ := (tB.x.rows rfl).reads
          have hone := hrd.one 0 hlen0
          have hfit0 := hrd.fit 0 hlen0
          simp at hone hfit0
          have hh0 := List.headD_drop0 L' zE hlen0
          rw [← he0] at hh0
          have hfe := tB.fit _ (List.getElem_mem hlen0)
          simp [-vLenL, hxt, hxi, hxl, hlen0, qV, hb, hone, hfit0, vLenL_bsl]
          refine xcall_self (by simp) (rsame21_c e0 L'[0] (by rw [← hh0]; exact hfe) hfe _) ?_
          simp [hh0, hw]
          refine ⟨⟨_, o', some p2, L', j + 1⟩, ⟨hnext, tB⟩, hmu, ?_⟩
          simp at hBl hB0 hB2
          simp [Leq, hBl, hB0, hB2, leqH_take, dqC_ll]
          try omega
      obtain ⟨H1, H2, L', wr1, wr2, k1, k2, t2, hl2⟩ := two_hide tA hm2
      have heq := equal1_any (P := Try.prog) mixed k23 (qidsL L) (qidsL L) H2 (by have := qidsL_len L ht.fit; have := ht.len; omega)
      rw [eqL_beq] at heq
      obtain ⟨o', ho'⟩ : ∃ o', o' = o := ⟨_, rfl⟩
      obtain ⟨o2', ho2'⟩ : ∃ o2', o2' = o2 := ⟨_, rfl⟩
      rw [← ho', ← ho2'] at t2
      simp [hlt, h0, h1, h2, h3, h4]
      refine xcall_self (by simp) k1 ?_
      simp
      refine xcall_self (by simp) k2 ?_
      simp
      refine xcall_self (by simp) heq ?_
      simp
      have tT := t2
      have hhd := qhead_c tT.q tT.fit
      obtain ⟨e0, he0⟩ : ∃ e0, e0 = L'.headD zE := ⟨_, rfl⟩
      rw [← he0] at hhd
      have tB := tT.app [enC e0] (by simp)
      have hxt := tB.x.top
      have hxl := qV_len o2' L'.length tB.x.o_len
      have hxi := qV_id o2' L'.length
      have hLm := tB.len
      have hlist := qlist_c tB.q (by omega) tB.fit
      have hlenc := qlen_c tB.q
      have heat := tB.x.eat
      have hBl := tB.q.lt
      have hB2 := tB.x.il
      have hB0 := tB.q.il
      simp only [qC] at hxt
      refine xcall_self (by simp) hhd ?_
      simp [-vLenL, hxt, hxi]
      refine xcall_self (by simp) hlist ?_
      simp [-vLenL]
      refine xall (EAt.sl _ _) heat (by omega) tB.fit tB.fit ?_
      simp [-vLenL, hxt, hxi, hxl]
      refine xcall_self (by simp) hlenc ?_
      by_cases hL : L' = []
      · subst hL
        have hxi0 := qV_id o2' 0
        have hxl0 := qV_len o2' 0 (fun _ => rfl)
        have hxt0 := hxt
        simp only [List.length_nil] at hxt0
        simp [-vLenL, hxt0, hxi0, hxl0, hw]
        refine ⟨⟨_, o', o2', [], j + 1⟩, ⟨hnext, tB⟩, hmu, ?_⟩
        simp at hBl hB0 hB2
        simp [Leq, hBl, hB0, hB2, leqH_take, dqC_ll]
        try omega
      · obtain ⟨p2, rfl⟩ := tB.x.some_of hL
        have hlen0 : 0 < L'.length := List.length_pos_iff.2 hL
        obtain ⟨cs, hb, hrd⟩ := (tB.x.rows rfl).reads
        have hone := hrd.one 0 hlen0
        have hfit0 := hrd.fit 0 hlen0
        simp at hone hfit0
        have hh0 := List.headD_drop0 L' zE hlen0
        rw [← he0] at hh0
        have hfe := tB.fit _ (List.getElem_mem hlen0)
        simp [-vLenL, hxt, hxi, hxl, hlen0, qV, hb, hone, hfit0, vLenL_bsl]
        refine xcall_self (by simp) (rsame21_c e0 L'[0] (by rw [← hh0]; exact hfe) hfe _) ?_
        simp [hh0, hw]
        refine ⟨⟨_, o', some p2, L', j + 1⟩, ⟨hnext, tB⟩, hmu, ?_⟩
        simp at hBl hB0 hB2
        simp [Leq, hBl, hB0, hB2, leqH_take, dqC_ll]
        try omega
    · have : j = l.length := by omega
      subst this
      have hql := ht.q.lt
      simp
      refine xcall_self (by simp) (qawake_c _) ?_
      simp [hql]
      done
end Go.Proofs.Ytpogpofmakcodaa.Ax
namespace Go.Proofs.Ytpogpofmakcodaa.queueLives
open Go.ChangeShapes Go.WideShapes Go.ChangeAt Go.RowKit
open Go.ChangeMaps (open_string shut_string)
set_option linter.unusedVariables false

theorem own : ownKnob Try.prog.godebug = none := by kernel_rfl
theorem laidOut : laidOutB Try.prog = true := by kernel_rfl

set_option maxRecDepth 100000 in
theorem lifted (os : Os) (started : os.Started) (H : Type) (enc : TypeId × Value → H) :
    ReturnsInHanded {} Try.checked os 3 .any (Rows.queueLivesSpec.pre6 enc Try.prog Try.f3 Rows.queueLivesRow.domain false) (Rows.queueLivesSpec.post enc Try.prog Try.f3 false true false false) := by
  refine returnsInHanded_of_change (C := Try.checked) own started (by kernel_rfl) Try.func3
    (ChangeSpec.witness6 (enc := enc) (C := Try.checked) false ⟨#[], #[.int .i64 0, .slice none 0 0], []⟩ 8 (by kernel_rfl) (by kernel_rfl) (by kernel_rfl) (by kernel_rfl)) ?_
  intro W base args ds gs before hval0 hW hcnd _
  have hval : ∀ (j : Nat) t v, Try.f3.params[j]? = some t → args[j]? = some v → Value.okWide Try.prog W .any base t v := hval0
  have hW' := hW
  obtain ⟨p, q, hA0, hV, rfl, hfz, hnd⟩ := hW
  have hA : DataW.TrodAll enc Try.prog W 0 (fun _ => true) true Try.f3.params.toList args.toList ds p := hA0
  rw [Try.params3] at hA hval
  obtain ⟨v0, vs0, d0, ds0, p0, q0, hargs, rfl, rfl, h0, r0⟩ := trodAll_cons hA
  obtain ⟨v1, vs1, d1, ds1, p1, q1, rfl, rfl, rfl, h1, r1⟩ := trodAll_cons r0
  obtain ⟨rfl, rfl, rfl⟩ := trodAll_nil r1
  obtain rfl : args = #[v0, v1] := by cases args; simp_all
  obtain ⟨rfl, rfl⟩ := trodVars_none hV
  have k0 := h0
  have lt0 : ∀ x ∈ p0, x.block < W.heap.size := by obtain ⟨m, hm⟩ := k0; exact DataW.trod_lt m _ _ _ hm
  obtain ⟨a0, ok0, s0⟩ := Ax.arg_int Try.underlying3 (hval 0 3 v0 rfl rfl) h0
  have k1 := h1
  have lt1 : ∀ x ∈ p1, x.block < W.heap.size := by obtain ⟨m, hm⟩ := k1; exact DataW.trod_lt m _ _ _ hm
  obtain ⟨a1, ok1, s1⟩ := Ax.arg_slice Try.underlying22 Ax.sh_dqCL (hval 1 22 v1 rfl rfl) h1
  clear hA0 hval0
  refine (Ax.law_walk (w := W) (Ax.dom_any W) (Ax.qlives_c a0 a1) (by simp) (.cons s0 (.cons s1 .nil))).mono fun e W' ⟨he, bel⟩ => ?_
  subst he
  exact ⟨_, rfl, _, _, _, [], _, [], hW', trodAll_mk1 (shut_bool Try.underlying4 _), (trodAll_cons_mk (Below.trod laidOut (by kernel_rfl) (of_decide_eq_true (by kernel_rfl)) k0 bel lt0) (trodAll_cons_mk (Below.trod laidOut (by kernel_rfl) (of_decide_eq_true (by kernel_rfl)) k1 bel lt1) trodAll_mk0)), rfl, bel.frame _, fun h => by cases h⟩

theorem over : Rows.queueLivesRow.holds Try.pinned (OpenSpec.ofChange Rows.queueLivesSpec) :=
  OpenClaim.holds_of_wide 3 Try.f3 rfl rfl rfl rfl rfl rfl rfl ⟨rfl, rfl, rfl, rfl, rfl⟩ rfl rfl rfl rfl rfl (by kernel_rfl) Try.func3 (by kernel_rfl)
    (of_decide_eq_true (by kernel_rfl)) (by unfold Func.isWrapper; first | (rw [if_pos (by decide +kernel)]; kernel_rfl) | (rw [if_neg (by decide +kernel)]; exact ⟨rfl, rfl⟩))
    (fun os started H enc _ => lifted os started H enc)

theorem proved : Rows.QueueLivesSaid := over
#print axioms proved
end Go.Proofs.Ytpogpofmakcodaa.queueLives
