/- What is said without a reply, over values without memory: match's Flush, and the document's. -/
import Derived.Test.YtpogpofmakcodaaQAxTz
import Derived.Test.YtpogpofmakcodaaQAxBa
import Derived.Test.YtpogpofmakcodaaQAxIb
import Derived.Test.YtpogpofmakcodaaQAxQf
import Derived.Test.YtpogpofmakcodaaQCodeA
import Derived.Test.YtpogpofmakcodaaQAxQa
/- Entries that are few, over values without memory. -/
namespace Go.Proofs.Ytpogpofmakcodaa.Ax
open Go.RowKit Go By
set_option linter.unusedSimpArgs false
set_option linter.unusedVariables false
set_option maxRecDepth 10000

/-! ### Entries that are few -/
def fewE (e : En) : Bool := decide (e.good.length ≤ 10 ∧ e.bad.length ≤ 10 ∧ e.cache.length ≤ 10 ∧ e.reply.length ≤ 300 ∧ e.from_.length ≤ 300 ∧ e.to.length ≤ 300)
def fewEL (l : List En) (n : Int) : Bool := decide ((l.length : Int) ≤ n) && l.all fewE
theorem entry_c (e : En) (h : List (List AV)) : Contract Try.prog 53 [.agg (enC e)] h (.v (.bool (!fewE e))) h [] := by
  refine contract_of k53 mixed (by simp [c53]) fun hh hargs => ?_
  simp [c53, enC_mk]
  by_cases q1 : e.good.length ≤ 10
  · have p1 : ¬ (10 : Int) < e.good.length := by omega
    by_cases q2 : e.bad.length ≤ 10
    · have p2 : ¬ (10 : Int) < e.bad.length := by omega
      by_cases q3 : e.cache.length ≤ 10
      · have p3 : ¬ (10 : Int) < e.cache.length := by omega
        by_cases q4 : e.reply.length ≤ 300
        · have p4 : ¬ (300 : Int) < e.reply.length := by omega
          by_cases q5 : e.from_.length ≤ 300
          · have p5 : ¬ (300 : Int) < e.from_.length := by omega
            by_cases q6 : e.to.length ≤ 300
            · have p6 : ¬ (300 : Int) < e.to.length := by omega
              simp [p1, p2, p3, p4, p5, p6, q1, q2, q3, q4, q5, q6, fewE, strB_size, hh]
            · have p6 : (300 : Int) < e.to.length := by omega
              simp [p1, p2, p3, p4, p5, p6, q1, q2, q3, q4, q5, q6, fewE, strB_size, hh]
          · have p5 : (300 : Int) < e.from_.length := by omega
            simp [p1, p2, p3, p4, p5, q1, q2, q3, q4, q5, fewE, strB_size, hh]
        · have p4 : (300 : Int) < e.reply.length := by omega
          simp [p1, p2, p3, p4, q1, q2, q3, q4, fewE, strB_size, hh]
      · have p3 : (10 : Int) < e.cache.length := by omega
        simp [p1, p2, p3, q1, q2, q3, fewE, hh]
    · have p2 : (10 : Int) < e.bad.length := by omega
      simp [p1, p2, q1, q2, fewE, hh]
  · have p1 : (10 : Int) < e.good.length := by omega
    simp [p1, q1, fewE, hh]
theorem entries_n (l : List En) (m : Nat) (hm : m ≤ 1000) (h : List (List AV)) : Contract Try.prog 30 [.sl 8 (enc enC l) none .no, .v (.int .i64 (m : Int))] h (.v (.bool (fewEL l m))) h [] := by
  refine contract_of k30 mixed (by simp [c30]) fun hh hargs => ?_
  by_cases hL : (m : Int) < l.length
  · have e : fewEL l m = false := by unfold fewEL; simp; intro h1; omega
    rw [e]
    simp [c30, hL, hh]
  · have e : fewEL l m = !(l.any fun e => !fewE e) := by unfold fewEL; rw [← List.not_all_eq_any_not]; simp; omega
    rw [e]
    simp [c30, hL]
    refine xcall_self (by simp) (containsN_any mixed k52 k47 enC (fun e => !fewE e) l [] _ (by simp) (by simp) (by simp) (fun e _ => entry_c e _) (by omega)) ?_
    simp [hh]
end Go.Proofs.Ytpogpofmakcodaa.Ax
/- Layer 21's statements: a queue that no call made, and two entries, over values without memory. -/
namespace Go.Proofs.Ytpogpofmakcodaa.Ax
open Go.RowKit Go By
set_option linter.unusedSimpArgs false
set_option linter.unusedVariables false
set_option maxRecDepth 10000

theorem take_of {h H : List (List AV)} (hl : h.length ≤ H.length) (hq : ∀ q, q < h.length → H[q]? = h[q]?) (more : List (List AV)) : List.take h.length (H ++ more) = h := by
  refine List.ext_getElem? fun q => ?_
  rw [List.getElem?_take]
  by_cases hlt : q < h.length
  · rw [if_pos hlt, List.getElem?_append_left (by omega), hq q hlt]
  · rw [if_neg hlt, List.getElem?_eq_none (by omega)]
def aE (k : Int) : En := { zE with kind := k }
theorem aE_fit (k : Int) : EnFit (aE k) := by simp [EnFit, aE, zE]
theorem pushH_len (h : List (List AV)) (i : Nat) (o : Option (Nat × Nat)) (most : Nat) (L l : List En) : h.length ≤ (pushH h i o most L l).length := by
  unfold pushH; rw [List.length_set]; exact apQ_len h o L l
theorem pushH_get {h : List (List AV)} {i : Nat} {o : Option (Nat × Nat)} {most : Nat} {L : List En} (l : List En) {q : Nat} (hq : q < h.length) (hi : q ≠ i) (hp : ∀ p, o = some p → q ≠ p.1) : (pushH h i o most L l)[q]? = h[q]? := by
  unfold pushH
  rw [List.getElem?_set_ne (Ne.symm hi), apQ_get hq hp]
theorem qH_len (h : List (List AV)) (i : Nat) (o : Option (Nat × Nat)) (n len most : Nat) : (qH h i o n len most).length = h.length := by unfold qH; rw [List.length_set]
theorem qH_get {h : List (List AV)} {i : Nat} {o : Option (Nat × Nat)} {n len most : Nat} {q : Nat} (hi : q ≠ i) : (qH h i o n len most)[q]? = h[q]? := by
  unfold qH; rw [List.getElem?_set_ne (Ne.symm hi)]
/-- A queue that was made and pushed to. -/
theorem qmade_at {h : List (List AV)} (hh : ltLL h.length h) (most : Nat) (l : List En) (hne : l ≠ []) : QAt (pushH (h ++ [qC none 0 most]) h.length none most [] l) h.length (some (h.length + 1, 0)) most l := by
  have h1 := (newQ_at hh most).push l
  have e : apO (h ++ [qC none 0 most]) none l = some (h.length + 1, 0) := by unfold apO; rw [if_neg hne]; simp
  rw [e] at h1
  simpa using h1
theorem qmade_get {h : List (List AV)} {most : Nat} (l : List En) {q : Nat} (hq : q < h.length) : (pushH (h ++ [qC none 0 most]) h.length none most [] l)[q]? = h[q]? := by
  rw [pushH_get l (by simp; omega) (by omega) (fun p hp => by cases hp), List.getElem?_append_left hq]
/-! ### A queue that no call made -/
section
variable {h : List (List AV)}
end
/-! ### Two entries -/
theorem fewE_fit {e : En} (h : fewE e = true) : EnFit e := by
  unfold fewE at h
  have := of_decide_eq_true h
  exact ⟨by omega, by omega, by omega, by omega⟩
theorem fewEL_iff {l : List En} {n : Int} (h : fewEL l n = true) : (l.length : Int) ≤ n ∧ ∀ e ∈ l, EnFit e := by
  unfold fewEL at h
  rw [Bool.and_eq_true] at h
  refine ⟨of_decide_eq_true h.1, fun e he => fewE_fit (List.all_eq_true.1 h.2 e he)⟩
end Go.Proofs.Ytpogpofmakcodaa.Ax
/- Layer 21's statement: a queue and the document's, side by side, over values without memory. -/
namespace Go.Proofs.Ytpogpofmakcodaa.Ax
open Go.RowKit Go By
set_option linter.unusedSimpArgs false
set_option linter.unusedVariables false
set_option maxRecDepth 10000

/-- The queue, number 0, and the document's, number 1. -/
structure Two (H : List (List AV)) (o o2 : Option (Nat × Nat)) (most : Nat) (L : List En) : Prop where
  q : QAt H 0 o most L
  x : QAt H 1 o2 most L
  a : ∀ p, o = some p → 2 ≤ p.1
  b : ∀ p, o2 = some p → 2 ≤ p.1
  ap : ∀ p p2, o = some p → o2 = some p2 → p.1 ≠ p2.1
  len : L.length ≤ most
  fit : ∀ e ∈ L, EnFit e
theorem Two.app {H : List (List AV)} {o o2 : Option (Nat × Nat)} {most : Nat} {L : List En} (ht : Two H o o2 most L) (more : List (List AV)) (hm : ltLL (H.length + more.length) more) : Two (H ++ more) o o2 most L :=
  ⟨ht.q.app more hm, ht.x.app more hm, ht.a, ht.b, ht.ap, ht.len, ht.fit⟩
theorem putH_get {h : List (List AV)} {i most : Nat} {l : List En} {q : Nat} (hq : q < h.length) (hi : q ≠ i) : (putH h i most l)[q]? = h[q]? := by
  unfold putH
  rw [List.getElem?_set_ne (Ne.symm hi), apQ_none_get hq]
theorem apO_ge {h : List (List AV)} {o : Option (Nat × Nat)} {l : List En} {p : Nat × Nat} (hp : apO h o l = some p) : o = some p ∨ p.1 = h.length := by
  unfold apO at hp
  split at hp
  · exact .inl hp
  · injection hp with hp; exact .inr (by rw [← hp])
theorem apO_none {h : List (List AV)} {l : List En} {p : Nat × Nat} (hp : apO h none l = some p) : p.1 = h.length := by
  rcases apO_ge hp with h1 | h1
  · cases h1
  · exact h1
theorem rpushH_get {h : List (List AV)} {i most : Nat} {L l : List En} {q : Nat} (hq : q < h.length) (hi : q ≠ i) : (rpushH h i most L l)[q]? = h[q]? := by
  have hl := apQ_len h none [] L
  unfold rpushH
  rw [List.getElem?_set_ne (Ne.symm hi), apQ_get (by omega) (fun p hp => by have := apO_none hp; omega), apQ_none_get hq]
theorem cutO_fst {o : Option (Nat × Nat)} {n : Nat} {p : Nat × Nat} (hp : cutO o n = some p) : ∃ p0, o = some p0 ∧ p.1 = p0.1 := by
  cases o with
  | none => cases hp
  | some q => injection hp with hp; exact ⟨q, rfl, by rw [← hp]⟩
theorem RowsAt.take {h : List (List AV)} {b off : Nat} {l : List En} (hr : RowsAt h b off l) (n : Nat) : RowsAt h b off (l.take n) := by
  obtain ⟨pre, post, h1, h2⟩ := hr
  refine ⟨pre, (enc enC (l.drop n)).flatten ++ post, h1, ?_⟩
  rw [h2]
  have e : (enc enC l).flatten = (enc enC (l.take n)).flatten ++ (enc enC (l.drop n)).flatten := by
    rw [← List.flatten_append, ← enc_app, List.take_append_drop]
  rw [e]; simp only [List.append_assoc]
section
variable {H : List (List AV)} {o o2 : Option (Nat × Nat)} {most : Nat} {L : List En}
theorem two_push (ht : Two H o o2 most L) (l : List En) (hf : ∀ e ∈ l, EnFit e) (hm1 : 1 ≤ most) (hm2 : most ≤ 4096) :
    ∃ H1 H2 o' o2' L' n wr1 wr2, Contract Try.prog 15 [.box 0 0, .sl 8 (enc enC l) none .no] H (.v (.int .i64 n)) H1 wr1 ∧ Contract Try.prog 16 [.box 1 0, .sl 8 (enc enC l) none .no] H1 (.v (.int .i64 n)) H2 wr2 ∧
      Two H2 o' o2' most L' ∧ (∀ q ∈ wr1, q = 0 ∨ ∃ p, o = some p ∧ q = p.1) ∧ (∀ q ∈ wr2, q = 1) ∧ H.length ≤ H2.length := by
  by_cases hfull : most < L.length + l.length
  · exact ⟨H, H, o, o2, L, 6, [], [], qpush_full ht.q l hm1 hm2 ht.len hfull, rpush_full ht.x l hm2 ht.len hfull, ht, (fun q hq => by cases hq), (fun q hq => by cases hq), Nat.le_refl _⟩
  · have hq := ht.q.push l
    have hil := ht.x.il
    have hl1 := pushH_len H 0 o most L l
    have hkeep : ∀ q, q < H.length → q ≠ 0 → (∀ p, o = some p → q ≠ p.1) → (pushH H 0 o most L l)[q]? = H[q]? := fun q h1 h2 h3 => pushH_get l h1 h2 h3
    have hx1 : QAt (pushH H 0 o most L l) 1 o2 most L := ht.x.move (hkeep 1 hil (by omega) (fun p hp => by have := ht.a p hp; omega)) (fun p hp => hkeep p.1 (ht.x.bl hp) (by have := ht.b p hp; omega) (fun p0 hp0 => Ne.symm (ht.ap p0 p hp0 hp))) hq.lt
    have hx2 := rpush_at hx1 l
    have hl2 : (pushH H 0 o most L l).length ≤ (rpushH (pushH H 0 o most L l) 1 most L l).length := by
      unfold rpushH
      rw [List.length_set]
      exact Nat.le_trans (apQ_len _ none [] L) (apQ_len _ _ L l)
    have hb2 : ∀ p, apO (apQ (pushH H 0 o most L l) none [] L) (apO (pushH H 0 o most L l) none L) l = some p → (pushH H 0 o most L l).length ≤ p.1 := fun p hp => by
      rcases apO_ge hp with h1 | h1
      · have := apO_none h1; omega
      · rw [h1]; exact apQ_len _ none [] L
    refine ⟨_, _, apO H o l, _, _, 0, _, _, qpush_c ht.q l hf hm1 hm2 (by omega), rpush_c hx1 l hm2 (by omega), ⟨?_, hx2, fun p hp => ?_, fun p hp => ?_, fun p p2 hp hp2 => ?_, by rw [List.length_append]; omega, fun e he => ?_⟩, fun q hq => ?_, fun q hq => by simpa using hq, by omega⟩
    · exact hq.move (rpushH_get (by omega) (by omega)) (fun p hp => rpushH_get (hq.bl hp) (fun e => by
        rcases apO_ge hp with h1 | h1
        · have := ht.a p h1; omega
        · omega)) hx2.lt
    · rcases apO_ge hp with h1 | h1
      · exact ht.a p h1
      · omega
    · have := hb2 p hp; omega
    · have h1 := hb2 p2 hp2
      have h2 := hq.bl hp
      omega
    · rcases List.mem_append.1 he with he | he
      · exact ht.fit e he
      · exact hf e he
    · rcases List.mem_cons.1 hq with hq | hq
      · exact .inl hq
      · unfold apWr at hq
        split at hq
        · cases hq
        · cases o with
          | none => cases hq
          | some p => exact .inr ⟨p, rfl, by simpa using hq⟩
end
end Go.Proofs.Ytpogpofmakcodaa.Ax
namespace Go.Proofs.Ytpogpofmakcodaa.Ax
open Go.RowKit Go By
set_option linter.unusedSimpArgs false
set_option linter.unusedVariables false
set_option maxRecDepth 10000

theorem chain_up {S : Type} (I : Nat → S → Prop) (R : Nat → S → S → Prop) (s0 : S) (h0 : I 0 s0) : ∀ (n : Nat), (∀ j < n, ∀ s, I j s → ∃ s', I (j + 1) s' ∧ R j s s') → ∃ F : Nat → S, F 0 = s0 ∧ (∀ j ≤ n, I j (F j)) ∧ ∀ j < n, R j (F j) (F (j + 1))
  | 0, _ => ⟨fun _ => s0, rfl, fun j hj => by have : j = 0 := by omega
                                              subst this; exact h0, fun j hj => by omega⟩
  | n + 1, step => by
    obtain ⟨F, h1, h2, h3⟩ := chain_up I R s0 h0 n fun j hj => step j (by omega)
    obtain ⟨s', h4, h5⟩ := step n (by omega) (F n) (h2 n (Nat.le_refl _))
    refine ⟨fun j => if j ≤ n then F j else s', by simp [h1], fun j hj => ?_, fun j hj => ?_⟩
    · dsimp only
      split
      · rename_i hl; exact h2 j hl
      · have : j = n + 1 := by omega
        subst this; exact h4
    · dsimp only
      rw [if_pos (by omega)]
      split
      · exact h3 j (by omega)
      · have : j = n := by omega
        subst this; exact h5
/-- How many it begins with that have no reply. -/
def flN : List En → Nat
  | [] => 0
  | e :: l => if e.kind = 10 then flN l + 1 else 0
theorem flN_cons (e : En) (l : List En) : flN (e :: l) = if e.kind = 10 then flN l + 1 else 0 := rfl
theorem flN_le : ∀ L : List En, flN L ≤ L.length
  | [] => Nat.le_refl _
  | e :: l => by
    rw [flN_cons]
    have := flN_le l
    split
    · simp; exact this
    · simp
theorem flN_get : ∀ (L : List En) (j : Nat) (hj : j < L.length), j < flN L → L[j].kind = 10
  | e :: l, j, hj, h => by
    rw [flN_cons] at h
    split at h
    · rename_i h10
      cases j with
      | zero => exact h10
      | succ j => exact flN_get l j (by simpa using hj) (by omega)
    · omega
theorem flN_stop : ∀ (L : List En) (hj : flN L < L.length), ¬ L[flN L].kind = 10
  | e :: l, hj => by
    have hc := flN_cons e l
    by_cases h10 : e.kind = 10
    · rw [if_pos h10] at hc
      have := flN_stop l (by rw [hc] at hj; simpa using hj)
      simp [hc]; exact this
    · rw [if_neg h10] at hc
      simp [hc]; exact h10
section
variable {h : List (List AV)} {i most : Nat} {o : Option (Nat × Nat)} {L : List En}
theorem mpop_c {e : En} (ht : QAt h i o most (e :: L)) : Contract Try.prog 54 [.box i 0] h (.sl 8 [enC e] (some false) .exact) (qH h i o 1 (e :: L).length most) [i] := by
  have hp := qpop_c ht
  have hlt := (ht.cut 1 (by simp)).lt
  change ltLL (qH h i o 1 (e :: L).length most).length (qH h i o 1 (e :: L).length most) at hlt
  have hl := qH_len h i o 1 (e :: L).length most
  rw [hl] at hlt
  have htk : ∀ more : List (List AV), List.take h.length (qH h i o 1 (e :: L).length most ++ more) = qH h i o 1 (e :: L).length most := fun more => by rw [List.take_left' hl]
  generalize qH h i o 1 (e :: L).length most = H1 at *
  refine contract_of k54 mixed (by simp [c54]) fun hh hargs => ?_
  simp [c54]
  refine xcall_self (by simp) hp ?_
  simp [hlt, hl, leqH_take, enC_mk]
  done
theorem qH_zero (ht : QAt h i o most L) : qH h i o 0 L.length most = h := by
  have hil := ht.il
  have e : cutO o 0 = o := by
    cases o with
    | none => rfl
    | some p => simp [cutO]
  unfold qH
  rw [e, Nat.sub_zero, ← ht.ig]; exact List.set_getElem_self hil
theorem qH_cut (ht : QAt h i o most L) (n : Nat) (hn : n ≤ L.length) : QAt (qH h i o n L.length most) i (cutO o n) most (L.drop n) := ht.cut n hn
theorem cutO_cut (o : Option (Nat × Nat)) (a b : Nat) : cutO (cutO o a) b = cutO o (a + b) := by
  cases o with
  | none => rfl
  | some p => simp [cutO, Nat.add_mul, Nat.add_assoc]
theorem qH_qH (h : List (List AV)) (i : Nat) (o : Option (Nat × Nat)) (a b len most : Nat) (more : List (List AV)) (hi : i < h.length) : qH (qH h i o a len most ++ more) i (cutO o a) b (len - a) most = qH h i o (a + b) len most ++ more := by
  unfold qH
  rw [List.set_append_left _ _ (by rw [List.length_set]; exact hi), List.set_set, cutO_cut, Nat.sub_sub]
theorem mflush_c (ht : QAt h i o most L) (hl : L.length ≤ 1000000) (hf : ∀ e ∈ L, EnFit e) : Contract Try.prog 34 [.box i 0] h (.sl 8 (enc enC (L.take (flN L))) none .no) (qH h i o (flN L) L.length most) [i] := by
  have hil := ht.il
  have hle := flN_le L
  have hz := qH_zero ht
  have hH := fun k (hk : k ≤ L.length) => qH_cut ht k hk
  have hHl := fun k => qH_len h i o k L.length most
  have hHlt : ∀ k, k ≤ L.length → ltLL h.length (qH h i o k L.length most) := fun k hk => by have := (hH k hk).lt; rwa [hHl k] at this
  refine contract_of k34 mixed (by simp [c34]) fun hh hargs => ?_
  simp [c34]
  refine xloop_ok (D := Nat) (fun k => ⟨[(0, .box i 0)], [(3, .sl 8 (enc enC (L.take k)) none (.own (.new 3)))], qH h i o k L.length most, [i]⟩) (fun k => k ≤ flN L) (fun k => flN L - k) 0 (Nat.zero_le _) ?_ ?_
  · rw [hz]
    simp [Leq, hh, leqH_take, hil]
    done
  · intro k hk
    have hkL : k ≤ L.length := by omega
    have hq := hH k hkL
    have hql := hHl k
    have hlt := hHlt k hkL
    have hhd := qhead_c hq (fun e he => hf e (List.mem_of_mem_drop he))
    by_cases hkf : k < flN L
    · have hkl : k < L.length := by omega
      have hk10 := flN_get L k hkl hkf
      have hdr : L.drop k = L[k] :: L.drop (k + 1) := List.drop_eq_getElem_cons hkl
      rw [hdr] at hq hhd
      have hA := hq.app [enC L[k]] (by simp)
      have hpop := mpop_c hA
      have hlen1 : (L[k] :: L.drop (k + 1)).length = L.length - k := by rw [← hdr, List.length_drop]
      rw [hlen1, qH_qH h i o k 1 L.length most [enC L[k]] hil] at hpop
      have hlt1 := hHlt (k + 1) (by omega)
      have hl1 := hHl (k + 1)
      have htk : ∀ more : List (List AV), List.take h.length (qH h i o (k + 1) L.length most ++ more) = qH h i o (k + 1) L.length most := fun more => by rw [List.take_left' hl1]
      have hts : L.take (k + 1) = L.take k ++ [L[k]] := List.take_succ_eq_append_getElem hkl
      have hb1 : (min k L.length + 1) * 144 ≤ 140737488355328 := by omega
      have hb2 : min k L.length + 1 ≤ 140737488355328 := by omega
      rw [show (L[k] :: L.drop (k + 1)).headD zE = L[k] from rfl] at hhd
      simp
      refine xcall_self (by simp) hhd ?_
      simp [hk10]
      refine xcall_self (by simp) hpop ?_
      simp
      refine ⟨by omega, by omega, k + 1, by omega, by omega, ?_⟩
      rw [hts]
      simp [Leq, leqH_take, hlt1, hl1, htk, hil]
      exact ⟨by rw [hts, enc_app]; exact weakLL_refl _, fun h => by omega⟩
    · have hkk : k = flN L := by omega
      subst hkk
      obtain ⟨e0, he0⟩ : ∃ e0, e0 = (L.drop (flN L)).headD zE := ⟨_, rfl⟩
      rw [← he0] at hhd
      have hk10 : ¬ e0.kind = 10 := by
        by_cases hlt2 : flN L < L.length
        · rw [List.drop_eq_getElem_cons hlt2] at he0
          rw [he0]; exact flN_stop L hlt2
        · rw [List.drop_of_length_le (by omega)] at he0
          rw [he0]; simp [zE]
      have htk : ∀ more : List (List AV), List.take h.length (qH h i o (flN L) L.length most ++ more) = qH h i o (flN L) L.length most := fun more => by rw [List.take_left' hql]
      simp
      refine xcall_self (by simp) hhd ?_
      simp [hk10, hlt, hql, htk, leqH_take]
      done
/-- The document's pop, in one form. -/
theorem rpop_e {e : En} (ht : QAt h i o most (e :: L)) (hl : L.length ≤ 1000000) : ∃ h' o', Contract Try.prog 18 [.box i 0] h (.tup [.agg (enC e), .v (.bool true)]) h' [i] ∧ QAt h' i o' most L ∧ h.length ≤ h'.length ∧ (∀ q, q < h.length → q ≠ i → h'[q]? = h[q]?) ∧ ∀ p, o' = some p → h.length ≤ p.1 := by
  have hrp := rpop_c ht hl
  have hA := ht.app [zEn, enC e] (by unfold zEn; simp)
  have hx := hA.put L
  have hil := ht.il
  have hpl : (h ++ [zEn, enC e]).length ≤ (putH (h ++ [zEn, enC e]) i most L).length := by unfold putH; rw [List.length_set]; exact apQ_len _ none [] L
  have hpg := fun q (h1 : q < (h ++ [zEn, enC e]).length) (h2 : q ≠ i) => putH_get (i := i) (most := most) (l := L) h1 h2
  have hAl : (h ++ [zEn, enC e]).length = h.length + 2 := by simp
  have ho2 : ∀ p, apO (h ++ [zEn, enC e]) none L = some p → p.1 = h.length + 2 := fun p hp => by rw [apO_none hp, hAl]
  generalize putH (h ++ [zEn, enC e]) i most L = H2 at *
  refine ⟨_, apO (h ++ [zEn, enC e]) none L, hrp, ?_, by rw [List.length_set]; omega, fun q h1 h2 => ?_, fun p hp => by have := ho2 p hp; omega⟩
  · refine hx.move (List.getElem?_set_ne (by omega)) (fun p hp => ?_) (by rw [List.length_set]; exact ltLL_set hx.lt (by simp))
    have := ho2 p hp
    exact List.getElem?_set_ne (by omega)
  · rw [List.getElem?_set_ne (by omega), hpg q (by omega) h2, List.getElem?_append_left h1]
theorem rflush_c (ht : QAt h i o most L) (hl : L.length ≤ 1000000) : ∃ h' o', Contract Try.prog 35 [.box i 0] h (.sl 8 (enc enC (L.take (flN L))) none .no) h' [i] ∧ QAt h' i o' most (L.drop (flN L)) ∧ h.length ≤ h'.length ∧ (∀ q, q < h.length → q ≠ i → h'[q]? = h[q]?) ∧ ∀ p, o' = some p → o = some p ∨ h.length ≤ p.1 := by
  have hil := ht.il
  have hle := flN_le L
  obtain ⟨F, f0, fI, fR⟩ := chain_up (S := List (List AV) × Option (Nat × Nat))
    (fun k s => QAt s.1 i s.2 most (L.drop k) ∧ h.length ≤ s.1.length ∧ (∀ q, q < h.length → q ≠ i → s.1[q]? = h[q]?) ∧ ∀ p, s.2 = some p → o = some p ∨ h.length ≤ p.1)
    (fun k s s' => ∀ hk : k < L.length, Contract Try.prog 18 [.box i 0] s.1 (.tup [.agg (enC L[k]), .v (.bool true)]) s'.1 [i] ∧ s.1.length ≤ s'.1.length)
    (h, o) ⟨by simpa using ht, Nat.le_refl _, fun _ _ _ => rfl, fun p hp => .inl hp⟩ (flN L) (fun k hk s hs => by
      obtain ⟨s1, s2, s3, s4⟩ := hs
      have hkl : k < L.length := by omega
      rw [List.drop_eq_getElem_cons hkl] at s1
      obtain ⟨h', o', c1, c2, c3, c4, c5⟩ := rpop_e s1 (by rw [List.length_drop]; omega)
      exact ⟨(h', o'), ⟨c2, by show h.length ≤ h'.length; omega, fun q h1 h2 => by show h'[q]? = _; rw [c4 q (by omega) h2, s3 q h1 h2], fun p hp => .inr (by have := c5 p hp; omega)⟩, fun _ => ⟨c1, c3⟩⟩)
  obtain ⟨q1, q2, q3, q4⟩ := fI (flN L) (Nat.le_refl _)
  refine ⟨(F (flN L)).1, (F (flN L)).2, ?_, q1, q2, q3, q4⟩
  have hlts : ∀ k, k ≤ flN L → ltLL (F k).1.length (F k).1 := fun k hk => (fI k hk).1.lt
  refine contract_of k35 mixed (by simp [c35]) fun hh hargs => ?_
  simp [c35]
  refine xloop_ok (D := Nat) (fun k => ⟨[(0, .box i 0)], [(3, .sl 8 (enc enC (L.take k)) none (.own (.new 3)))], (F k).1, [i]⟩) (fun k => k ≤ flN L) (fun k => flN L - k) 0 (Nat.zero_le _) ?_ ?_
  · rw [f0]
    simp [Leq, hh, leqH_take, hil]
    done
  · intro k hk
    obtain ⟨s1, s2, s3, s4⟩ := fI k hk
    have hlt := hlts k hk
    have e1 := s1.top
    have e2 := qV_len (F k).2 (L.drop k).length s1.o_len
    have e3 := qV_id (F k).2 (L.drop k).length
    have hlk := s1.il
    by_cases hkf : k < flN L
    · have hkl : k < L.length := by omega
      obtain ⟨c1, c3⟩ := fR k hkf hkl
      obtain ⟨n1, n2, n3, n4⟩ := fI (k + 1) hkf
      have hlt1 := hlts (k + 1) hkf
      have hk10 := flN_get L k hkl hkf
      have hdl : (L.drop k).length = L.length - k := List.length_drop ..
      have hpos : 0 < (L.drop k).length := by omega
      obtain ⟨p, hp⟩ := s1.some_of (by intro e; rw [e] at hpos; simp at hpos)
      have hrow := s1.rows hp
      obtain ⟨cs, hb, hrd⟩ := hrow.reads
      have hat0 := hrd.at_ hpos 0 (by omega)
      have hfit0 := hrd.fit 0 hpos
      have hd0 : (L.drop k)[0] = L[k] := by simp
      rw [hd0, enC_0, hk10, Nat.zero_mul, Nat.add_zero] at hat0
      have hts : L.take (k + 1) = L.take k ++ [L[k]] := List.take_succ_eq_append_getElem hkl
      have hil1 := n1.il
      obtain ⟨N, hN⟩ : ∃ N, N = L.length - k := ⟨_, rfl⟩
      have hposI : (0 : Int) < (N : Int) := by omega
      have hposN : 0 < N := by omega
      rw [hp] at e1
      rw [hdl, ← hN] at e1
      simp only [qC, qV] at e1
      have hb1 : (min k L.length + 1) * 144 ≤ 140737488355328 := by omega
      have hb2 : min k L.length ≤ 140737488355327 := by omega
      have hle2 : h.length ≤ (F (k + 1)).1.length := n2
      simp [-vLenL, e1, vLenL_bsl, hposI, hposN, hb, hat0]
      refine xcall_self (by simp) c1 ?_
      simp
      refine ⟨by omega, by omega, k + 1, by omega, by omega, ?_⟩
      rw [hts]
      simp [Leq, leqH_take, hlt1, hil1]
      exact ⟨hle2, by rw [hts, enc_app]; exact weakLL_refl _, fun h => by omega⟩
    · have hkk : k = flN L := by omega
      subst hkk
      have hdl : (L.drop (flN L)).length = L.length - flN L := List.length_drop ..
      by_cases hlt2 : flN L < L.length
      · have hk10 := flN_stop L hlt2
        have hpos : 0 < (L.drop (flN L)).length := by omega
        obtain ⟨p, hp⟩ := s1.some_of (by intro e; rw [e] at hpos; simp at hpos)
        have hrow := s1.rows hp
        obtain ⟨cs, hb, hrd⟩ := hrow.reads
        have hat0 := hrd.at_ hpos 0 (by omega)
        have hd0 : (L.drop (flN L))[0] = L[flN L] := by simp
        rw [hd0, enC_0, Nat.zero_mul, Nat.add_zero] at hat0
        obtain ⟨N, hN⟩ : ∃ N, N = L.length - flN L := ⟨_, rfl⟩
        have hposI : (0 : Int) < (N : Int) := by omega
        have hposN : 0 < N := by omega
        rw [hp] at e1
        rw [hdl, ← hN] at e1
        simp only [qC, qV] at e1
        simp [-vLenL, e1, vLenL_bsl, hposI, hposN, hb, hat0, hk10]
        exact ⟨s2, hlt⟩
      · have hd0 : L.drop (flN L) = [] := List.drop_of_length_le (by omega)
        rw [hd0] at e1 e2
        simp only [qC, List.length_nil] at e1 e2
        have e4 := qV_id (F (flN L)).2 0
        simp [-vLenL, e1, e2, e4]
        exact ⟨s2, hlt⟩
end
end Go.Proofs.Ytpogpofmakcodaa.Ax
