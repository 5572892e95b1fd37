/- What is said without a reply, over values without memory: match's Flush, and the document's. -/
import Derived.Test.YtpogpofmakcodaaQAxTz
import Derived.Test.YtpogpofmakcodaaQAxBa
import Derived.Test.YtpogpofmakcodaaQAxIb
import Derived.Test.YtpogpofmakcodaaQAxQf
import Derived.Test.YtpogpofmakcodaaQCodeA
import Derived.Test.YtpogpofmakcodaaQAxQa
/- Entries that are few, over values without memory. -/
namespace Go.Proofs.Ytpogpofmakcodaa.Ax
open Go.RowKit Go By
set_option linter.unusedSimpArgs false
set_option linter.unusedVariables false
set_option maxRecDepth 10000

/-! ### Entries that are few -/
def fewE (e : En) : Bool := decide (e.good.length ≤ 10 ∧ e.bad.length ≤ 10 ∧ e.cache.length ≤ 10 ∧ e.reply.length ≤ 300 ∧ e.from_.length ≤ 300 ∧ e.to.length ≤ 300)
def fewEL (l : List En) (n : Int) : Bool := decide ((l.length : Int) ≤ n) && l.all fewE
theorem entry_c (e : En) (h : List (List AV)) : Contract Try.prog 53 [.agg (enC e)] h (.v (.bool (!fewE e))) h [] := by
  refine contract_of k53 mixed (by simp [c53]) fun hh hargs => ?_
  simp [c53, enC_mk]
  by_cases q1 : e.good.length ≤ 10
  · have p1 : ¬ (10 : Int) < e.good.length := by omega
    by_cases q2 : e.bad.length ≤ 10
    · have p2 : ¬ (10 : Int) < e.bad.length := by omega
      by_cases q3 : e.cache.length ≤ 10
      · have p3 : ¬ (10 : Int) < e.cache.length := by omega
        by_cases q4 : e.reply.length ≤ 300
        · have p4 : ¬ (300 : Int) < e.reply.length := by omega
          by_cases q5 : e.from_.length ≤ 300
          · have p5 : ¬ (300 : Int) < e.from_.length := by omega
            by_cases q6 : e.to.length ≤ 300
            · have p6 : ¬ (300 : Int) < e.to.length := by omega
              simp [p1, p2, p3, p4, p5, p6, q1, q2, q3, q4, q5, q6, fewE, strB_size, hh]
            · have p6 : (300 : Int) < e.to.length := by omega
              simp [p1, p2, p3, p4, p5, p6, q1, q2, q3, q4, q5, q6, fewE, strB_size, hh]
          · have p5 : (300 : Int) < e.from_.length := by omega
            simp [p1, p2, p3, p4, p5, q1, q2, q3, q4, q5, fewE, strB_size, hh]
        · have p4 : (300 : Int) < e.reply.length := by omega
          simp [p1, p2, p3, p4, q1, q2, q3, q4, fewE, strB_size, hh]
      · have p3 : (10 : Int) < e.cache.length := by omega
        simp [p1, p2, p3, q1, q2, q3, fewE, hh]
    · have p2 : (10 : Int) < e.bad.length := by omega
      simp [p1, p2, q1, q2, fewE, hh]
  · have p1 : (10 : Int) < e.good.length := by omega
    simp [p1, q1, fewE, hh]
theorem entries_n (l : List En) (m : Nat) (hm : m ≤ 1000) (h : List (List AV)) : Contract Try.prog 30 [.sl 8 (enc enC l) none .no, .v (.int .i64 (m : Int))] h (.v (.bool (fewEL l m))) h [] := by
  refine contract_of k30 mixed (by simp [c30]) fun hh hargs => ?_
  by_cases hL : (m : Int) < l.length
  · have e : fewEL l m = false := by unfold fewEL; simp; intro h1; omega
    rw [e]
    simp [c30, hL, hh]
  · have e : fewEL l m = !(l.any fun e => !fewE e) := by unfold fewEL; rw [← List.not_all_eq_any_not]; simp; omega
    rw [e]
    simp [c30, hL]
    refine xcall_self (by simp) (containsN_any mixed k52 k47 enC (fun e => !fewE e) l [] _ (by simp) (by simp) (by simp) (fun e _ => entry_c e _) (by omega)) ?_
    simp [hh]
end Go.Proofs.Ytpogpofmakcodaa.Ax
/- Layer 21's statements: a queue that no call made, and two entries, over values without memory. -/
namespace Go.Proofs.Ytpogpofmakcodaa.Ax
open Go.RowKit Go By
set_option linter.unusedSimpArgs false
set_option linter.unusedVariables false
set_option maxRecDepth 10000

theorem take_of {h H : List (List AV)} (hl : h.length ≤ H.length) (hq : ∀ q, q < h.length → H[q]? = h[q]?) (more : List (List AV)) : List.take h.length (H ++ more) = h := by
  refine List.ext_getElem? fun q => ?_
  rw [List.getElem?_take]
  by_cases hlt : q < h.length
  · rw [if_pos hlt, List.getElem?_append_left (by omega), hq q hlt]
  · rw [if_neg hlt, List.getElem?_eq_none (by omega)]
def aE (k : Int) : En := { zE with kind := k }
theorem aE_fit (k : Int) : EnFit (aE k) := by simp [EnFit, aE, zE]
theorem pushH_len (h : List (List AV)) (i : Nat) (o : Option (Nat × Nat)) (most : Nat) (L l : List En) : h.length ≤ (pushH h i o most L l).length := by
  unfold pushH; rw [List.length_set]; exact apQ_len h o L l
theorem pushH_get {h : List (List AV)} {i : Nat} {o : Option (Nat × Nat)} {most : Nat} {L : List En} (l : List En) {q : Nat} (hq : q < h.length) (hi : q ≠ i) (hp : ∀ p, o = some p → q ≠ p.1) : (pushH h i o most L l)[q]? = h[q]? := by
  unfold pushH
  rw [List.getElem?_set_ne (Ne.symm hi), apQ_get hq hp]
theorem qH_len (h : List (List AV)) (i : Nat) (o : Option (Nat × Nat)) (n len most : Nat) : (qH h i o n len most).length = h.length := by unfold qH; rw [List.length_set]
theorem qH_get {h : List (List AV)} {i : Nat} {o : Option (Nat × Nat)} {n len most : Nat} {q : Nat} (hi : q ≠ i) : (qH h i o n len most)[q]? = h[q]? := by
  unfold qH; rw [List.getElem?_set_ne (Ne.symm hi)]
/-- A queue that was made and pushed to. -/
theorem qmade_at {h : List (List AV)} (hh : ltLL h.length h) (most : Nat) (l : List En) (hne : l ≠ []) : QAt (pushH (h ++ [qC none 0 most]) h.length none most [] l) h.length (some (h.length + 1, 0)) most l := by
  have h1 := (newQ_at hh most).push l
  have e : apO (h ++ [qC none 0 most]) none l = some (h.length + 1, 0) := by unfold apO; rw [if_neg hne]; simp
  rw [e] at h1
  simpa using h1
theorem qmade_get {h : List (List AV)} {most : Nat} (l : List En) {q : Nat} (hq : q < h.length) : (pushH (h ++ [qC none 0 most]) h.length none most [] l)[q]? = h[q]? := by
  rw [pushH_get l (by simp; omega) (by omega) (fun p hp => by cases hp), List.getElem?_append_left hq]
/-! ### A queue that no call made -/
section
variable {h : List (List AV)}
end
/-! ### Two entries -/
theorem fewE_fit {e : En} (h : fewE e = true) : EnFit e := by
  unfold fewE at h
  have := of_decide_eq_true h
  exact ⟨by omega, by omega, by omega, by omega⟩
theorem fewEL_iff {l : List En} {n : Int} (h : fewEL l n = true) : (l.length : Int) ≤ n ∧ ∀ e ∈ l, EnFit e := by
  unfold fewEL at h
  rw [Bool.and_eq_true] at h
  refine ⟨of_decide_eq_true h.1, fun e he => fewE_fit (List.all_eq_true.1 h.2 e he)⟩
end Go.Proofs.Ytpogpofmakcodaa.Ax
/- Layer 21's statement: a queue and the document's, side by side, over values without memory. -/
namespace Go.Proofs.Ytpogpofmakcodaa.Ax
open Go.RowKit Go By
set_option linter.unusedSimpArgs false
set_option linter.unusedVariables false
set_option maxRecDepth 10000

/-- The queue, number 0, and the document's, number 1. -/
structure Two (H : List (List AV)) (o o2 : Option (Nat × Nat)) (most : Nat) (L : List En) : Prop where
  q : QAt H 0 o most L
  x : QAt H 1 o2 most L
  a : ∀ p, o = some p → 2 ≤ p.1
  b : ∀ p, o2 = some p → 2 ≤ p.1
  ap : ∀ p p2, o = some p → o2 = some p2 → p.1 ≠ p2.1
  len : L.length ≤ most
  fit : ∀ e ∈ L, EnFit e
theorem cutO_fst {o : Option (Nat × Nat)} {n : Nat} {p : Nat × Nat} (hp : cutO o n = some p) : ∃ p0, o = some p0 ∧ p.1 = p0.1 := by
  cases o with
  | none => cases hp
  | some q => injection hp with hp; exact ⟨q, rfl, by rw [← hp]⟩
theorem RowsAt.take {h : List (List AV)} {b off : Nat} {l : List En} (hr : RowsAt h b off l) (n : Nat) : RowsAt h b off (l.take n) := by
  obtain ⟨pre, post, h1, h2⟩ := hr
  refine ⟨pre, (enc enC (l.drop n)).flatten ++ post, h1, ?_⟩
  rw [h2]
  have e : (enc enC l).flatten = (enc enC (l.take n)).flatten ++ (enc enC (l.drop n)).flatten := by
    rw [← List.flatten_append, ← enc_app, List.take_append_drop]
  rw [e]; simp only [List.append_assoc]
section
variable {H : List (List AV)} {o o2 : Option (Nat × Nat)} {most : Nat} {L : List En}
end
end Go.Proofs.Ytpogpofmakcodaa.Ax
namespace Go.Proofs.Ytpogpofmakcodaa.Ax
open Go.RowKit Go By
set_option linter.unusedSimpArgs false
set_option linter.unusedVariables false
set_option maxRecDepth 10000

/-- How many it begins with that have no reply. -/
def flN : List En → Nat
  | [] => 0
  | e :: l => if e.kind = 10 then flN l + 1 else 0
theorem flN_cons (e : En) (l : List En) : flN (e :: l) = if e.kind = 10 then flN l + 1 else 0 := rfl
theorem flN_le : ∀ L : List En, flN L ≤ L.length
  | [] => Nat.le_refl _
  | e :: l => by
    rw [flN_cons]
    have := flN_le l
    split
    · simp; exact this
    · simp
theorem flN_get : ∀ (L : List En) (j : Nat) (hj : j < L.length), j < flN L → L[j].kind = 10
  | e :: l, j, hj, h => by
    rw [flN_cons] at h
    split at h
    · rename_i h10
      cases j with
      | zero => exact h10
      | succ j => exact flN_get l j (by simpa using hj) (by omega)
    · omega
theorem flN_stop : ∀ (L : List En) (hj : flN L < L.length), ¬ L[flN L].kind = 10
  | e :: l, hj => by
    have hc := flN_cons e l
    by_cases h10 : e.kind = 10
    · rw [if_pos h10] at hc
      have := flN_stop l (by rw [hc] at hj; simpa using hj)
      simp [hc]; exact this
    · rw [if_neg h10] at hc
      simp [hc]; exact h10
section
variable {h : List (List AV)} {i most : Nat} {o : Option (Nat × Nat)} {L : List En}
theorem mpop_c {e : En} (ht : QAt h i o most (e :: L)) : Contract Try.prog 54 [.box i 0] h (.sl 8 [enC e] (some false) .exact) (qH h i o 1 (e :: L).length most) [i] := by
  have hp := qpop_c ht
  have hlt := (ht.cut 1 (by simp)).lt
  change ltLL (qH h i o 1 (e :: L).length most).length (qH h i o 1 (e :: L).length most) at hlt
  have hl := qH_len h i o 1 (e :: L).length most
  rw [hl] at hlt
  have htk : ∀ more : List (List AV), List.take h.length (qH h i o 1 (e :: L).length most ++ more) = qH h i o 1 (e :: L).length most := fun more => by rw [List.take_left' hl]
  generalize qH h i o 1 (e :: L).length most = H1 at *
  refine contract_of k54 mixed (by simp [c54]) fun hh hargs => ?_
  simp [c54]
  refine xcall_self (by simp) hp ?_
  simp [hlt, hl, leqH_take, enC_mk]
  done
theorem qH_zero (ht : QAt h i o most L) : qH h i o 0 L.length most = h := by
  have hil := ht.il
  have e : cutO o 0 = o := by
    cases o with
    | none => rfl
    | some p => simp [cutO]
  unfold qH
  rw [e, Nat.sub_zero, ← ht.ig]; exact List.set_getElem_self hil
theorem qH_cut (ht : QAt h i o most L) (n : Nat) (hn : n ≤ L.length) : QAt (qH h i o n L.length most) i (cutO o n) most (L.drop n) := ht.cut n hn
theorem cutO_cut (o : Option (Nat × Nat)) (a b : Nat) : cutO (cutO o a) b = cutO o (a + b) := by
  cases o with
  | none => rfl
  | some p => simp [cutO, Nat.add_mul, Nat.add_assoc]
theorem qH_qH (h : List (List AV)) (i : Nat) (o : Option (Nat × Nat)) (a b len most : Nat) (more : List (List AV)) (hi : i < h.length) : qH (qH h i o a len most ++ more) i (cutO o a) b (len - a) most = qH h i o (a + b) len most ++ more := by
  unfold qH
  rw [List.set_append_left _ _ (by rw [List.length_set]; exact hi), List.set_set, cutO_cut, Nat.sub_sub]
theorem mflush_c (ht : QAt h i o most L) (hl : L.length ≤ 1000000) (hf : ∀ e ∈ L, EnFit e) : Contract Try.prog 34 [.box i 0] h (.sl 8 (enc enC (L.take (flN L))) none .no) (qH h i o (flN L) L.length most) [i] := by
  have hil := ht.il
  have hle := flN_le L
  have hz := qH_zero ht
  have hH := fun k (hk : k ≤ L.length) => qH_cut ht k hk
  have hHl := fun k => qH_len h i o k L.length most
  have hHlt : ∀ k, k ≤ L.length → ltLL h.length (qH h i o k L.length most) := fun k hk => by have := (hH k hk).lt; rwa [hHl k] at this
  refine contract_of k34 mixed (by simp [c34]) fun hh hargs => ?_
  simp [c34]
  refine xloop_ok (D := Nat) (fun k => ⟨[(0, .box i 0)], [(3, .sl 8 (enc enC (L.take k)) none (.own (.new 3)))], qH h i o k L.length most, [i]⟩) (fun k => k ≤ flN L) (fun k => flN L - k) 0 (Nat.zero_le _) ?_ ?_
  · rw [hz]
    simp [Leq, hh, leqH_take, hil]
    done
  · intro k hk
    have hkL : k ≤ L.length := by omega
    have hq := hH k hkL
    have hql := hHl k
    have hlt := hHlt k hkL
    have hhd := qhead_c hq (fun e he => hf e (List.mem_of_mem_drop he))
    by_cases hkf : k < flN L
    · have hkl : k < L.length := by omega
      have hk10 := flN_get L k hkl hkf
      have hdr : L.drop k = L[k] :: L.drop (k + 1) := List.drop_eq_getElem_cons hkl
      rw [hdr] at hq hhd
      have hA := hq.app [enC L[k]] (by simp)
      have hpop := mpop_c hA
      have hlen1 : (L[k] :: L.drop (k + 1)).length = L.length - k := by rw [← hdr, List.length_drop]
      rw [hlen1, qH_qH h i o k 1 L.length most [enC L[k]] hil] at hpop
      have hlt1 := hHlt (k + 1) (by omega)
      have hl1 := hHl (k + 1)
      have htk : ∀ more : List (List AV), List.take h.length (qH h i o (k + 1) L.length most ++ more) = qH h i o (k + 1) L.length most := fun more => by rw [List.take_left' hl1]
      have hts : L.take (k + 1) = L.take k ++ [L[k]] := List.take_succ_eq_append_getElem hkl
      have hb1 : (min k L.length + 1) * 144 ≤ 140737488355328 := by omega
      have hb2 : min k L.length + 1 ≤ 140737488355328 := by omega
      rw [show (L[k] :: L.drop (k + 1)).headD zE = L[k] from rfl] at hhd
      simp
      refine xcall_self (by simp) hhd ?_
      simp [hk10]
      refine xcall_self (by simp) hpop ?_
      simp
      refine ⟨by omega, by omega, k + 1, by omega, by omega, ?_⟩
      rw [hts]
      simp [Leq, leqH_take, hlt1, hl1, htk, hil]
      exact ⟨by rw [hts, enc_app]; exact weakLL_refl _, fun h => by omega⟩
    · have hkk : k = flN L := by omega
      subst hkk
      obtain ⟨e0, he0⟩ : ∃ e0, e0 = (L.drop (flN L)).headD zE := ⟨_, rfl⟩
      rw [← he0] at hhd
      have hk10 : ¬ e0.kind = 10 := by
        by_cases hlt2 : flN L < L.length
        · rw [List.drop_eq_getElem_cons hlt2] at he0
          rw [he0]; exact flN_stop L hlt2
        · rw [List.drop_of_length_le (by omega)] at he0
          rw [he0]; simp [zE]
      have htk : ∀ more : List (List AV), List.take h.length (qH h i o (flN L) L.length most ++ more) = qH h i o (flN L) L.length most := fun more => by rw [List.take_left' hql]
      simp
      refine xcall_self (by simp) hhd ?_
      simp [hk10, hlt, hql, htk, leqH_take]
      done
end
end Go.Proofs.Ytpogpofmakcodaa.Ax
