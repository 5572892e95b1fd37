/- The document's queue, over values without memory: skipped, hidden; lists of entries, wherever they lie, compared. -/
import Derived.Test.YtpogpofmakcodaaQAxX
import Derived.Test.YtpogpofmakcodaaRows
import Derived.Test.YtpogpofmakcodaaQAxQa
import Derived.Test.YtpogpofmakcodaaQAxJc
import Derived.Test.YtpogpofmakcodaaQAxIb
/- The texts of functions over values without memory, as the kernel reckons them out of the program. -/
namespace Go.Proofs.Ytpogpofmakcodaa.Ax
open Go.RowKit Go By

def c30 : XFun := ⟨12, (.seq (.ops [⟨(some 4), (.assign (.const (.bool false))), none⟩]) (.seq (.seq (.ops [⟨(some 5), (.move (.tmp 0)), none⟩, ⟨(some 6), (.lenL (.tmp 5)), none⟩, ⟨(some 7), (.move (.tmp 1)), none⟩, ⟨(some 8), (.bin .gtr (.tmp 6) (.tmp 7)), none⟩]) (.cond (.tmp 8) (.seq (.ops [⟨(some 4), (.assign (.const (.bool false))), none⟩]) .ret) .skip)) (.seq (.ops [⟨(some 9), (.move (.tmp 0)), none⟩, ⟨(some 10), (.call 52 [(.tmp 9), (.func 53)]), none⟩, ⟨(some 11), (.un .not (.tmp 10)), none⟩, ⟨(some 4), (.assign (.tmp 11)), none⟩]) .ret))), [(.move (.tmp 4))]⟩
theorem k30 : cfun Try.prog 30 = some c30 := by kernel_rfl
def c53 : XFun := ⟨37, (.seq (.ops [⟨(some 1), (.box (.tmp 0)), none⟩, ⟨(some 2), (.assign (.const (.bool false))), none⟩]) (.seq (.ops [⟨(some 3), (.faddr 4 (.tmp 1)), none⟩, ⟨(some 4), (.load1 (.tmp 3)), none⟩, ⟨(some 5), (.lenL (.tmp 4)), none⟩, ⟨(some 6), (.bin .gtr (.tmp 5) (.const (.int .i64 10))), none⟩, ⟨(some 7), (.move (.tmp 6)), none⟩, ⟨(some 8), (.faddr 5 (.tmp 1)), (some (7, false))⟩, ⟨(some 9), (.load1 (.tmp 8)), (some (7, false))⟩, ⟨(some 10), (.lenL (.tmp 9)), (some (7, false))⟩, ⟨(some 11), (.bin .gtr (.tmp 10) (.const (.int .i64 10))), (some (7, false))⟩, ⟨(some 12), (.pick (.tmp 7) (.const (.bool true)) (.tmp 11)), none⟩, ⟨(some 13), (.move (.tmp 12)), none⟩, ⟨(some 14), (.faddr 6 (.tmp 1)), (some (13, false))⟩, ⟨(some 15), (.load1 (.tmp 14)), (some (13, false))⟩, ⟨(some 16), (.lenL (.tmp 15)), (some (13, false))⟩, ⟨(some 17), (.bin .gtr (.tmp 16) (.const (.int .i64 10))), (some (13, false))⟩, ⟨(some 18), (.pick (.tmp 13) (.const (.bool true)) (.tmp 17)), none⟩, ⟨(some 19), (.move (.tmp 18)), none⟩, ⟨(some 20), (.faddr 7 (.tmp 1)), (some (19, false))⟩, ⟨(some 21), (.load1 (.tmp 20)), (some (19, false))⟩, ⟨(some 22), (.lenL (.tmp 21)), (some (19, false))⟩, ⟨(some 23), (.bin .gtr (.tmp 22) (.const (.int .i64 300))), (some (19, false))⟩, ⟨(some 24), (.pick (.tmp 19) (.const (.bool true)) (.tmp 23)), none⟩, ⟨(some 25), (.move (.tmp 24)), none⟩, ⟨(some 26), (.faddr 2 (.tmp 1)), (some (25, false))⟩, ⟨(some 27), (.load1 (.tmp 26)), (some (25, false))⟩, ⟨(some 28), (.lenS (.tmp 27)), (some (25, false))⟩, ⟨(some 29), (.bin .gtr (.tmp 28) (.const (.int .i64 300))), (some (25, false))⟩, ⟨(some 30), (.pick (.tmp 25) (.const (.bool true)) (.tmp 29)), none⟩, ⟨(some 31), (.move (.tmp 30)), none⟩, ⟨(some 32), (.faddr 3 (.tmp 1)), (some (31, false))⟩, ⟨(some 33), (.load1 (.tmp 32)), (some (31, false))⟩, ⟨(some 34), (.lenS (.tmp 33)), (some (31, false))⟩, ⟨(some 35), (.bin .gtr (.tmp 34) (.const (.int .i64 300))), (some (31, false))⟩, ⟨(some 36), (.pick (.tmp 31) (.const (.bool true)) (.tmp 35)), none⟩, ⟨(some 2), (.assign (.tmp 36)), none⟩]) .ret)), [(.move (.tmp 2))]⟩
theorem k53 : cfun Try.prog 53 = some c53 := by kernel_rfl
def c52 : XFun := ⟨9, (.seq (.ops [⟨(some 4), (.assign (.const (.bool false))), none⟩]) (.seq (.ops [⟨(some 5), (.move (.tmp 0)), none⟩, ⟨(some 6), (.move (.tmp 1)), none⟩, ⟨(some 7), (.call 47 [(.tmp 5), (.tmp 6)]), none⟩, ⟨(some 8), (.bin .geq (.tmp 7) (.const (.int .i64 0))), none⟩, ⟨(some 4), (.assign (.tmp 8)), none⟩]) .ret)), [(.move (.tmp 4))]⟩
theorem k52 : cfun Try.prog 52 = some c52 := by kernel_rfl
def c47 : XFun := ⟨19, (.seq (.ops [⟨(some 4), (.assign (.const (.int .i64 0))), none⟩]) (.seq (.seq (.ops [⟨(some 6), (.move (.tmp 0)), none⟩, ⟨(some 7), (.lenL (.tmp 6)), none⟩, ⟨(some 8), (.move (.const (.int .i64 0))), none⟩]) (.block 0 (.loop (.seq (.ops [⟨(some 9), (.bin .lss (.tmp 8) (.tmp 7)), none⟩]) (.seq (.cond (.tmp 9) .skip (.exit 0)) (.seq (.block 1 (.seq (.ops [⟨(some 10), (.move (.tmp 8)), none⟩, ⟨(some 5), (.assign (.tmp 10)), none⟩]) (.seq (.ops [⟨(some 11), (.move (.tmp 1)), none⟩, ⟨(some 12), (.move (.tmp 0)), none⟩, ⟨(some 13), (.move (.tmp 5)), none⟩, ⟨(some 14), (.iaddr 8 (.tmp 12) (.tmp 13)), none⟩, ⟨(some 15), (.loadN 8 (.tmp 14)), none⟩, ⟨(some 16), (.callv (.tmp 11) [(.tmp 15)]), none⟩]) (.cond (.tmp 16) (.seq (.ops [⟨(some 17), (.move (.tmp 5)), none⟩, ⟨(some 4), (.assign (.tmp 17)), none⟩]) .ret) .skip)))) (.ops [⟨(some 18), (.bin .add (.tmp 8) (.const (.int .i64 1))), none⟩, ⟨(some 8), (.move (.tmp 18)), none⟩]))))))) (.seq (.ops [⟨(some 4), (.assign (.const (.int .i64 (-1)))), none⟩]) .ret))), [(.move (.tmp 4))]⟩
theorem k47 : cfun Try.prog 47 = some c47 := by kernel_rfl
end Go.Proofs.Ytpogpofmakcodaa.Ax
/- Entries that are the same, entries that are read, wherever they lie, over values without memory. -/
namespace Go.Proofs.Ytpogpofmakcodaa.Ax
open Go.RowKit Go By
set_option linter.unusedSimpArgs false
set_option linter.unusedVariables false
set_option maxRecDepth 10000

@[simp] theorem resOf_newQ {m n k : Nat} {es : List (List AV)} {nul : Option Bool} : resOf m (.sl k es nul (.own (.new n))) = .sl k es nul (.own .res) := rfl
theorem rallB_c (l m : List En) (hl : l.length ≤ 1000000) (hf : ∀ e ∈ l, EnFit e) (hg : ∀ e ∈ m, EnFit e) {h : List (List AV)} {b0 o0 : Nat} (hr0 : RowsAt h b0 o0 l) : Contract Try.prog 20 [.bsl b0 o0 8 l.length, .sl 8 (enc enC m) none .no] h (.v (.bool (decide (l = m)))) h [] := by
  obtain ⟨cs0, hb0, hrd0⟩ := hr0.reads
  have hbl0 := heap_lt hb0
  have hbg0 : h[b0] = cs0 := by rw [List.getElem?_eq_getElem hbl0] at hb0; injection hb0
  refine contract_of k20 mixed (by simp [c20]) fun hh hargs => ?_
  by_cases hlen : l.length = m.length
  · have hlen2 : (l.length : Int) = m.length := by omega
    simp [c20, hlen2]
    refine xloop_ok (D := Nat) (fun j => ⟨[(0, .bsl b0 o0 8 l.length), (1, .sl 8 (enc enC m) none .no), (5, .v (.int .i64 (j : Int)))], [], h, []⟩) (fun j => j ≤ l.length ∧ l.take j = m.take j) (fun j => l.length - j) 0 ⟨by omega, by simp⟩ ?_ ?_
    · simp [Leq, hh, leqH_take, hb0, hbl0, hbg0]
      try omega
    · rintro j ⟨hj, hp⟩
      by_cases hlt : j < l.length
      · have hlb : j < m.length := by omega
        have hw : IntKind.i64.wrap ((j : Int) + 1) = (j : Int) + 1 := wrap64 (by omega) (by omega)
        have key := rsame21_c l[j] m[j] (hf _ (List.getElem_mem hlt)) (hg _ (List.getElem_mem hlb)) h
        have one0 := hrd0.one j hlt
        have fit0 := hrd0.fit j hlt
        simp [hlt, hlb, hb0, hbl0, hbg0, one0, fit0]
        refine xcall_self (by simp) key ?_
        by_cases e : l[j] = m[j]
        · simp [e, hw]
          refine ⟨j + 1, ⟨by omega, take_same hlt hlb hp e⟩, by omega, ?_⟩
          simp [Leq, hh, leqH_take, hb0, hbl0, hbg0]
          try omega
        · have hne := not_same hlt hlb e
          simp [e, hne, hh]
          done
      · have hjl : j = l.length := by omega
        subst hjl
        have e : l = m := by rw [List.take_length, hlen, List.take_length] at hp; exact hp
        subst e
        simp [hh]
        done
  · have hlen2 : ¬ (l.length : Int) = m.length := by omega
    have hne : ¬ l = m := fun e => hlen (by rw [e])
    simp [c20, hlen2, hne, hh]
    done
theorem rallSB_c (l m : List En) (hl : l.length ≤ 1000000) (hf : ∀ e ∈ l, EnFit e) (hg : ∀ e ∈ m, EnFit e) {h : List (List AV)} {b1 o1 : Nat} (hr1 : RowsAt h b1 o1 m) : Contract Try.prog 20 [.sl 8 (enc enC l) none .no, .bsl b1 o1 8 m.length] h (.v (.bool (decide (l = m)))) h [] := by
  obtain ⟨cs1, hb1, hrd1⟩ := hr1.reads
  have hbl1 := heap_lt hb1
  have hbg1 : h[b1] = cs1 := by rw [List.getElem?_eq_getElem hbl1] at hb1; injection hb1
  refine contract_of k20 mixed (by simp [c20]) fun hh hargs => ?_
  by_cases hlen : l.length = m.length
  · have hlen2 : (l.length : Int) = m.length := by omega
    simp [c20, hlen2]
    refine xloop_ok (D := Nat) (fun j => ⟨[(0, .sl 8 (enc enC l) none .no), (1, .bsl b1 o1 8 m.length), (5, .v (.int .i64 (j : Int)))], [], h, []⟩) (fun j => j ≤ l.length ∧ l.take j = m.take j) (fun j => l.length - j) 0 ⟨by omega, by simp⟩ ?_ ?_
    · simp [Leq, hh, leqH_take, hb1, hbl1, hbg1]
      try omega
    · rintro j ⟨hj, hp⟩
      by_cases hlt : j < l.length
      · have hlb : j < m.length := by omega
        have hw : IntKind.i64.wrap ((j : Int) + 1) = (j : Int) + 1 := wrap64 (by omega) (by omega)
        have key := rsame21_c l[j] m[j] (hf _ (List.getElem_mem hlt)) (hg _ (List.getElem_mem hlb)) h
        have one1 := hrd1.one j hlb
        have fit1 := hrd1.fit j hlb
        simp [hlt, hlb, hb1, hbl1, hbg1, one1, fit1]
        refine xcall_self (by simp) key ?_
        by_cases e : l[j] = m[j]
        · simp [e, hw]
          refine ⟨j + 1, ⟨by omega, take_same hlt hlb hp e⟩, by omega, ?_⟩
          simp [Leq, hh, leqH_take, hb1, hbl1, hbg1]
          try omega
        · have hne := not_same hlt hlb e
          simp [e, hne, hh]
          done
      · have hjl : j = l.length := by omega
        subst hjl
        have e : l = m := by rw [List.take_length, hlen, List.take_length] at hp; exact hp
        subst e
        simp [hh]
        done
  · have hlen2 : ¬ (l.length : Int) = m.length := by omega
    have hne : ¬ l = m := fun e => hlen (by rw [e])
    simp [c20, hlen2, hne, hh]
    done
theorem rallBB_c (l m : List En) (hl : l.length ≤ 1000000) (hf : ∀ e ∈ l, EnFit e) (hg : ∀ e ∈ m, EnFit e) {h : List (List AV)} {b0 o0 : Nat} (hr0 : RowsAt h b0 o0 l) {b1 o1 : Nat} (hr1 : RowsAt h b1 o1 m) : Contract Try.prog 20 [.bsl b0 o0 8 l.length, .bsl b1 o1 8 m.length] h (.v (.bool (decide (l = m)))) h [] := by
  obtain ⟨cs0, hb0, hrd0⟩ := hr0.reads
  have hbl0 := heap_lt hb0
  have hbg0 : h[b0] = cs0 := by rw [List.getElem?_eq_getElem hbl0] at hb0; injection hb0
  obtain ⟨cs1, hb1, hrd1⟩ := hr1.reads
  have hbl1 := heap_lt hb1
  have hbg1 : h[b1] = cs1 := by rw [List.getElem?_eq_getElem hbl1] at hb1; injection hb1
  refine contract_of k20 mixed (by simp [c20]) fun hh hargs => ?_
  by_cases hlen : l.length = m.length
  · have hlen2 : (l.length : Int) = m.length := by omega
    simp [c20, hlen2]
    refine xloop_ok (D := Nat) (fun j => ⟨[(0, .bsl b0 o0 8 l.length), (1, .bsl b1 o1 8 m.length), (5, .v (.int .i64 (j : Int)))], [], h, []⟩) (fun j => j ≤ l.length ∧ l.take j = m.take j) (fun j => l.length - j) 0 ⟨by omega, by simp⟩ ?_ ?_
    · simp [Leq, hh, leqH_take, hb0, hbl0, hbg0, hb1, hbl1, hbg1]
      try omega
    · rintro j ⟨hj, hp⟩
      by_cases hlt : j < l.length
      · have hlb : j < m.length := by omega
        have hw : IntKind.i64.wrap ((j : Int) + 1) = (j : Int) + 1 := wrap64 (by omega) (by omega)
        have key := rsame21_c l[j] m[j] (hf _ (List.getElem_mem hlt)) (hg _ (List.getElem_mem hlb)) h
        have one0 := hrd0.one j hlt
        have fit0 := hrd0.fit j hlt
        have one1 := hrd1.one j hlb
        have fit1 := hrd1.fit j hlb
        simp [hlt, hlb, hb0, hbl0, hbg0, hb1, hbl1, hbg1, one0, fit0, one1, fit1]
        refine xcall_self (by simp) key ?_
        by_cases e : l[j] = m[j]
        · simp [e, hw]
          refine ⟨j + 1, ⟨by omega, take_same hlt hlb hp e⟩, by omega, ?_⟩
          simp [Leq, hh, leqH_take, hb0, hbl0, hbg0, hb1, hbl1, hbg1]
          try omega
        · have hne := not_same hlt hlb e
          simp [e, hne, hh]
          done
      · have hjl : j = l.length := by omega
        subst hjl
        have e : l = m := by rw [List.take_length, hlen, List.take_length] at hp; exact hp
        subst e
        simp [hh]
        done
  · have hlen2 : ¬ (l.length : Int) = m.length := by omega
    have hne : ¬ l = m := fun e => hlen (by rw [e])
    simp [c20, hlen2, hne, hh]
    done
theorem qsync_c (e : En) (h : List (List AV)) : Contract Try.prog 48 [.agg (enC e)] h (.v (.bool (decide (e.kind = 8)))) h [] := by
  refine contract_of k48 mixed (by simp [c48]) fun hh hargs => ?_
  have hl2 := ltLL_mono (Nat.le_add_right h.length 1) hh
  simp [c48, hh, hl2, leqH_take]
  try (by_cases e8 : e.kind = 8 <;> simp [e8])
theorem indexO_any {P : Program} (hm : P.follows .mixedOrders = true) {f g : FuncId} (hf : cfun P f = some (indexN 8)) (p : En → Bool) (xs : List En) {b off : Nat} {h : List (List AV)} (hr : RowsAt h b off xs)
    (hg : ∀ x, x ∈ xs → Contract P g [.agg (enC x)] h (.v (.bool (p x))) h []) (hl : xs.length ≤ 140737488355328) :
    Contract P f [.bsl b off 8 xs.length, .fn (.func g) [] []] h (.v (.int .i64 (idxI p xs))) h [] := by
  obtain ⟨cs, hb, hrd⟩ := hr.reads
  have hbl := heap_lt hb
  refine contract_of hf hm (by simp [indexN]) fun hh hargs => ?_
  simp at hargs
  simp [indexN]
  refine xloop_ok (D := Nat) (fun j => ⟨[(0, .bsl b off 8 xs.length), (1, .fn (.func g) [] []), (7, .v (.int .i64 xs.length)), (8, .v (.int .i64 j))], [], h, []⟩) (fun j => j ≤ xs.length ∧ ∀ x ∈ xs.take j, p x = false) (fun j => xs.length - j) 0 (by simp) ?_ ?_
  · simp [Leq, hh, hargs, hbl]
  · rintro j ⟨hj, hp⟩
    simp
    refine xwp_cond_of (decide (j < xs.length)) (by simp) (fun hlt => ?_) (fun hge => ?_)
    · simp at hlt
      have hw : IntKind.i64.wrap ((j : Int) + 1) = (j : Int) + 1 := wrap64 (by omega) (by omega)
      have hone := hrd.one j hlt
      have hfit := hrd.fit j hlt
      simp [hlt, hb, hone, hfit]
      refine xcall_self (by simp) (hg xs[j] (List.getElem_mem _)) ?_
      simp
      refine xwp_cond_of (p xs[j]) (by simp) (fun ht => ?_) (fun hf' => ?_)
      · simp [hh, idxI_of hlt hp ht]
      · simp
        refine ⟨j + 1, ⟨by omega, take_none hlt hp hf'⟩, by omega, ?_⟩
        simp [Leq, hh, hargs, hw, hbl]
    · simp at hge
      have hj' : j = xs.length := by omega
      subst hj'
      simp at hp
      simp [hh, idxI_none hp]
end Go.Proofs.Ytpogpofmakcodaa.Ax
/- What a server is still to reply, over values without memory: the queue. -/
namespace Go.Proofs.Ytpogpofmakcodaa.Ax
open Go.RowKit Go By
set_option linter.unusedSimpArgs false
set_option linter.unusedVariables false
set_option maxRecDepth 10000

@[simp] theorem zEn_len : zEn.length = 8 := of_eq_true (eq_self _)
/-- What a queue's list is. -/
def qV : Option (Nat × Nat) → Nat → AV
  | none, _ => .sl 0 [] (some true) .exact
  | some p, n => .bsl p.1 p.2 8 n
theorem vLenL_sl (k : Nat) (es : List (List AV)) (nul : Option Bool) (room : Room) : vLenL (.sl k es nul room) = ⟨True, .v (.int .i64 (es.length : Int)), false, []⟩ := rfl
theorem vLenL_bsl (i off k n : Nat) : vLenL (.bsl i off k n) = ⟨True, .v (.int .i64 (n : Int)), false, []⟩ := rfl
def qC (o : Option (Nat × Nat)) (n most : Nat) : List AV := [qV o n, .v (.int .i64 (most : Int))]
theorem qV_cells (o : Option (Nat × Nat)) (n : Nat) : (qV o n).cells = some [qV o n] := by cases o <;> rfl
theorem qV_unown (o : Option (Nat × Nat)) (n : Nat) : (qV o n).unown = qV o n := by cases o <;> rfl
theorem qV_id (o : Option (Nat × Nat)) (n : Nat) : (qV o n).idOf = none := by cases o <;> rfl
theorem qV_len (o : Option (Nat × Nat)) (n : Nat) (h : o = none → n = 0) : vLenL (qV o n) = ⟨True, .v (.int .i64 (n : Int)), false, []⟩ := by
  cases o with
  | none => rw [h rfl]; rfl
  | some p => rfl
structure QAt (h : List (List AV)) (i : Nat) (o : Option (Nat × Nat)) (most : Nat) (L : List En) : Prop where
  top : h[i]? = some (qC o L.length most)
  lt : ltLL h.length h
  emp : o = none → L = []
  row : ∀ p, o = some p → p.1 ≠ i ∧ ∃ D : List En, p.2 = D.length * 8 ∧ h[p.1]? = some (enc enC (D ++ L)).flatten ∧ D ++ L ≠ []
/-- None. -/
def zE : En := ⟨0, false, [], [], [], [], [], []⟩
section
variable {h : List (List AV)} {i most : Nat} {o : Option (Nat × Nat)} {L : List En}
theorem QAt.il (ht : QAt h i o most L) : i < h.length := (List.getElem?_eq_some_iff.1 ht.top).1
theorem QAt.ig (ht : QAt h i o most L) : h[i]'ht.il = qC o L.length most := (List.getElem?_eq_some_iff.1 ht.top).2
theorem QAt.o_len (ht : QAt h i o most L) : o = none → L.length = 0 := fun e => by rw [ht.emp e]; rfl
theorem QAt.move {h2 : List (List AV)} (ht : QAt h i o most L) (hi : h2[i]? = h[i]?) (hb : ∀ p, o = some p → h2[p.1]? = h[p.1]?) (hl : ltLL h2.length h2) : QAt h2 i o most L :=
  ⟨by rw [hi]; exact ht.top, hl, ht.emp, fun p hp => by
    obtain ⟨h1, D, h2, h3, h4⟩ := ht.row p hp
    exact ⟨h1, D, h2, by rw [hb p hp]; exact h3, h4⟩⟩
theorem QAt.bl (ht : QAt h i o most L) {p : Nat × Nat} (hp : o = some p) : p.1 < h.length := by
  obtain ⟨h1, D, h2, h3, h4⟩ := ht.row p hp
  exact (List.getElem?_eq_some_iff.1 h3).1
theorem QAt.app (ht : QAt h i o most L) (more : List (List AV)) (hm : ltLL (h.length + more.length) more) : QAt (h ++ more) i o most L :=
  ht.move (List.getElem?_append_left ht.il) (fun p hp => List.getElem?_append_left (ht.bl hp)) (by
    rw [List.length_append]; exact ltLL_append.2 ⟨ltLL_mono (Nat.le_add_right _ _) ht.lt, hm⟩)
theorem QAt.rows (ht : QAt h i o most L) {p : Nat × Nat} (hp : o = some p) : RowsAt h p.1 p.2 L := by
  obtain ⟨h1, D, h2, h3, h4⟩ := ht.row p hp
  refine ⟨(enc enC D).flatten, [], ?_, ?_⟩
  · rw [flat_len2 (c := enC) (k := 8) (fun _ => rfl), h2]
  · rw [h3]; unfold enc; simp
theorem QAt.some_of (ht : QAt h i o most L) (hne : L ≠ []) : ∃ p, o = some p := by
  cases o with
  | none => exact absurd (ht.emp rfl) hne
  | some p => exact ⟨p, rfl⟩
def cutO (o : Option (Nat × Nat)) (n : Nat) : Option (Nat × Nat) := o.map fun p => (p.1, p.2 + n * 8)
theorem QAt.cut (ht : QAt h i o most L) (n : Nat) (hn : n ≤ L.length) : QAt (h.set i (qC (cutO o n) (L.length - n) most)) i (cutO o n) most (L.drop n) := by
  refine ⟨by rw [List.getElem?_set_self ht.il, List.length_drop], ?_, fun e => ?_, fun p hp => ?_⟩
  · rw [List.length_set]
    refine ltLL_set ht.lt ?_
    cases o with
    | none => simp [cutO, qC, qV]
    | some p => have := ht.bl rfl; simp [cutO, qC, qV]; exact this
  · cases o with
    | none => rw [ht.emp rfl]; simp
    | some p => cases e
  · cases o with
    | none => cases hp
    | some q =>
      injection hp with hp
      subst hp
      obtain ⟨h1, D, h2, h3, h4⟩ := ht.row q rfl
      refine ⟨h1, D ++ L.take n, ?_, ?_, ?_⟩
      · show q.2 + n * 8 = _
        rw [List.length_append, List.length_take, h2, Nat.min_eq_left hn, Nat.add_mul]
      · show (h.set i _)[q.1]? = _
        rw [List.getElem?_set_ne (Ne.symm h1), h3, List.append_assoc, List.take_append_drop]
      · rw [List.append_assoc, List.take_append_drop]; exact h4
theorem qlen_c (ht : QAt h i o most L) : Contract Try.prog 28 [.box i 0] h (.v (.int .i64 (L.length : Int))) h [] := by
  have e1 := ht.top
  have e2 := qV_len o L.length ht.o_len
  refine contract_of k28 mixed (by simp [c28]) fun hh hargs => ?_
  simp [-vLenL, c28, e1, qC, e2, qV_id, hh]
  done
theorem qcut_c (ht : QAt h i o most L) (n : Nat) (hn : n ≤ L.length) {p : Nat × Nat} (hp : o = some p) : Contract Try.prog 43 [.box i 0, .v (.int .i64 (n : Int))] h (.bsl p.1 p.2 8 n) (h.set i (qC (cutO o n) (L.length - n) most)) [i] := by
  have e1 := ht.top
  have hil := ht.il
  have hig := ht.ig
  have hc := (ht.cut n hn).lt
  have hbl := ht.bl hp
  subst hp
  have hn2 : (n : Int) ≤ L.length := by omega
  have hn3 : ((L.length : Int) - (n : Int)).toNat = L.length - n := by omega
  rw [List.length_set] at hc
  refine contract_of k43 mixed (by simp [c43]) fun hh hargs => ?_
  simp [c43, e1, hig, qC, qV, hil, hn2, hn3]
  simp [qC, cutO, qV] at hc
  simp [hc, leqH_take, hbl, cutO, qV]
  done
theorem List.headD_drop0 {α : Type} (L : List α) (d : α) (hne : 0 < L.length) : L[0] = L.headD d := by cases L with | nil => cases hne | cons x l => rfl
theorem qhead_c (ht : QAt h i o most L) (hf : ∀ e ∈ L, EnFit e) : Contract Try.prog 26 [.box i 0] h (.tup [.agg (enC (L.headD zE)), .v (.bool (decide (0 < L.length)))]) h [] := by
  have e1 := ht.top
  have hil := ht.il
  have hig := ht.ig
  have hA := ht.app [zEn] (by unfold zEn; simp)
  refine contract_of k26 mixed (by simp [c26]) fun hh hargs => ?_
  have hl2 := ltLL_mono (Nat.le_add_right h.length 1) hh
  simp [c26]
  refine xcall_self (by simp) (qlen_c hA) ?_
  by_cases hL : L = []
  · subst hL
    simp [hh, hl2, leqH_take, enC_mk, zE]
    done
  · obtain ⟨p, rfl⟩ := ht.some_of hL
    have hlen : 0 < L.length := List.length_pos_iff.2 hL
    have hlen0 : ((L.length : Int) == 0) = false := by simpa using hL
    obtain ⟨cs, hb, hrd⟩ := (ht.rows rfl).reads
    have hbl := ht.bl rfl
    have hbg : h[p.1] = cs := by rw [List.getElem?_eq_getElem hbl] at hb; injection hb
    have hone := hrd.one 0 hlen
    have hfit := hrd.fit 0 hlen
    simp at hone hfit
    have hh0 := List.headD_drop0 L zE hlen
    simp [hlen0, List.getElem?_append_left hil, List.getElem?_append_left hbl, hil, hig, qC, qV, hlen, hbl, hbg, hone, hfit]
    refine xcall_self (by simp) (qclone_c _ (hf _ (List.getElem_mem hlen)) _) ?_
    simp [hh, hl2, leqH_take, hh0]
    done
/-- What a queue is behind a cut. -/
def qH (h : List (List AV)) (i : Nat) (o : Option (Nat × Nat)) (n len most : Nat) : List (List AV) := h.set i (qC (cutO o n) (len - n) most)
theorem qpop_c {e : En} (ht : QAt h i o most (e :: L)) : Contract Try.prog 17 [.box i 0] h (.tup [.agg (enC e), .v (.bool true)]) (qH h i o 1 (e :: L).length most) [i] := by
  obtain ⟨p, rfl⟩ := ht.some_of (by simp)
  have hil := ht.il
  have hA := ht.app [zEn] (by unfold zEn; simp)
  obtain ⟨cs, hb, hrd⟩ := (ht.rows rfl).reads
  have hbl := ht.bl rfl
  have hbi := (ht.row p rfl).1
  have hbg : h[p.1] = cs := by rw [List.getElem?_eq_getElem hbl] at hb; injection hb
  have hone := hrd.one 0 (by simp)
  have hfit := hrd.fit 0 (by simp)
  simp at hone hfit
  have hc := (ht.cut 1 (by simp)).lt
  rw [List.length_set] at hc
  have hcut := qcut_c hA 1 (by simp) rfl
  rw [List.set_append_left _ _ hil] at hcut
  have hib : ¬ i = p.1 := fun e => hbi e.symm
  refine contract_of k17 mixed (by simp [c17]) fun hh hargs => ?_
  have hl2 := ltLL_mono (Nat.le_add_right h.length 1) hh
  have hc2 := ltLL_mono (Nat.le_add_right h.length 1) hc
  have hlen0 : (((e :: L).length : Int) == 0) = false := by simp; omega
  simp [c17]
  refine xcall_self (by simp) (qlen_c hA) ?_
  simp at hlen0
  simp [hlen0]
  refine xcall_self (by simp) hcut ?_
  unfold qH
  generalize qC (cutO (some p) 1) ((e :: L).length - 1) most = X at *
  have hb2 : ∀ more : List (List AV), (h.set i X ++ more)[p.1]? = some cs := fun more => by rw [List.getElem?_append_left (by simpa using hbl), List.getElem?_set_ne hib]; exact hb
  simp [hb2, hone, hfit, hc, hc2, leqH_take]
  done
theorem qlist_c (ht : QAt h i o most L) (hl : L.length ≤ 1000000) (hf : ∀ e ∈ L, EnFit e) : Contract Try.prog 27 [.box i 0] h (.sl 8 (enc enC L) none .no) h [] := by
  have e1 := ht.top
  have hil := ht.il
  have hig := ht.ig
  refine contract_of k27 mixed (by simp [c27]) fun hh hargs => ?_
  cases o with
  | none =>
    have hL := ht.emp rfl
    subst hL
    simp [c27, e1, hig, qC, qV, hil]
    refine xcall_of (qclones_c [] (by simp) (by simp) _) (by simp) (by simp) ?_
    simp [hh]
    done
  | some p =>
    simp [c27, e1, hig, qC, qV, hil]
    refine xcall_self (by simp) (qclonesB_c L hl hf (ht.rows rfl)) ?_
    simp [hh]
    done
def syncP (e : En) : Bool := decide (e.kind = 8)
/-- How many are ahead of the first sync. -/
def skN : List En → Nat
  | [] => 0
  | e :: l => if e.kind = 8 then 0 else skN l + 1
theorem skN_cons (e : En) (l : List En) : skN (e :: l) = if e.kind = 8 then 0 else skN l + 1 := rfl
theorem skN_le : ∀ L : List En, skN L ≤ L.length
  | [] => Nat.le_refl _
  | e :: l => by
    rw [skN_cons]
    have := skN_le l
    split
    · simp
    · simp; exact this
theorem skN_idx : ∀ L : List En, (if idxI syncP L < 0 then (L.length : Int) else idxI syncP L) = skN L
  | [] => rfl
  | e :: l => by
    have ih := skN_idx l
    unfold idxI at ih ⊢
    rw [List.findIdx?_cons]
    rw [skN_cons]
    unfold syncP at *
    by_cases hk : e.kind = 8
    · simp [hk]
    · simp [hk]
      cases hx : l.findIdx? (fun e => decide (e.kind = 8)) with
      | none => rw [hx] at ih; simp at ih ⊢; omega
      | some k =>
        rw [hx] at ih
        have h0 : ¬ (k : Int) < 0 := by omega
        simp [h0] at ih
        simp
        have h1 : ¬ (k : Int) + 1 < 0 := by omega
        rw [if_neg h1]
        omega
theorem qskip_no (ht : QAt h i o most []) : Contract Try.prog 21 [.box i 0] h (.sl 0 [] (some true) .exact) h [] := by
  refine contract_of k21 mixed (by simp [c21]) fun hh hargs => ?_
  simp [c21]
  refine xcall_self (by simp) (qlen_c ht) ?_
  simp [hh]
  done
theorem qskip_c (ht : QAt h i o most L) (hl : L.length ≤ 1000000) {p : Nat × Nat} (hp : o = some p) (hne : L ≠ []) : Contract Try.prog 21 [.box i 0] h (.bsl p.1 p.2 8 (skN L)) (qH h i o (skN L) L.length most) [i] := by
  subst hp
  have e1 := ht.top
  have hil := ht.il
  have hig := ht.ig
  have hbl := ht.bl rfl
  have hle := skN_le L
  have hidx := skN_idx L
  have hcut := qcut_c ht (skN L) hle rfl
  have hc := (ht.cut (skN L) hle).lt
  rw [List.length_set] at hc
  have hlen0 : ((L.length : Int) == 0) = false := by simpa using hne
  have hif := indexO_any (P := Try.prog) mixed k47 syncP L (ht.rows rfl) (fun x _ => qsync_c x h) (by omega)
  refine contract_of k21 mixed (by simp [c21]) fun hh hargs => ?_
  simp [c21]
  refine xcall_self (by simp) (qlen_c ht) ?_
  simp [hlen0, e1, hig, qC, qV, hil]
  refine xcall_self (by simp) hif ?_
  unfold qH
  by_cases hi : idxI syncP L < 0
  · rw [if_pos hi] at hidx
    have hs : skN L = L.length := by omega
    rw [hs] at hcut hc ⊢
    generalize qC (cutO (some p) L.length) (L.length - L.length) most = X at *
    simp [hi, e1, hig, qC, qV, hil]
    refine xcall_self (by simp) hcut ?_
    simp [hc, hbl, leqH_take]
    done
  · rw [if_neg hi] at hidx
    rw [hidx]
    have hi2 : ¬ ((skN L : Nat) : Int) < 0 := by omega
    generalize qC (cutO (some p) (skN L)) (L.length - skN L) most = X at *
    simp [hi2]
    refine xcall_self (by simp) hcut ?_
    simp [hc, hbl, leqH_take]
    done
end
end Go.Proofs.Ytpogpofmakcodaa.Ax
/- What a server is still to reply, over values without memory: the queue: pushed, hidden. -/
namespace Go.Proofs.Ytpogpofmakcodaa.Ax
open Go.RowKit Go By
set_option linter.unusedSimpArgs false
set_option linter.unusedVariables false
set_option maxRecDepth 10000

/-- Behind an append: the heap, where the list is, what was written. -/
def apQ (h : List (List AV)) (o : Option (Nat × Nat)) (L l : List En) : List (List AV) :=
  if l = [] then h else match o with
  | none => h ++ [(enc enC l).flatten]
  | some p => h.set p.1 [] ++ [(enc enC (L ++ l)).flatten]
def apO (h : List (List AV)) (o : Option (Nat × Nat)) (l : List En) : Option (Nat × Nat) := if l = [] then o else some (h.length, 0)
def apWr (o : Option (Nat × Nat)) (l : List En) (wr : List Nat) : List Nat := if l = [] then wr else match o with
  | none => wr
  | some p => p.1 :: wr
theorem enc_app {α : Type} (f : α → List AV) (a b : List α) : enc f (a ++ b) = enc f a ++ enc f b := by unfold enc; rw [List.map_append]
theorem flat_plainE (l : List En) : ∀ c ∈ (enc enC l).flatten, c.idOf = none := fun c hc => by
  obtain ⟨e, he2, hc⟩ := List.mem_flatten.1 hc
  obtain ⟨s, _, rfl⟩ := List.mem_map.1 he2
  exact enC_id s c hc
/-- What is appended is these. -/
def IsRowsE (h : List (List AV)) (x : AV) (l : List En) : Prop :=
  (l ≠ [] ∧ rowsOf h 8 x = some (enc enC l)) ∨ (l = [] ∧ match x with | .sl _ es _ _ => es = [] | .bsl _ _ _ m => m = 0 | _ => False)
theorem isRowsE_sl {h : List (List AV)} (l : List En) (nul : Option Bool) (room : Room) : IsRowsE h (.sl 8 (enc enC l) nul room) l := by
  by_cases hl : l = []
  · subst hl; exact .inr ⟨rfl, rfl⟩
  · exact .inl ⟨hl, rfl⟩
theorem isRowsE_at {h : List (List AV)} {b off : Nat} {l : List En} (hr : RowsAt h b off l) (k : Nat) {n : Nat} (hk : k + n ≤ l.length) : IsRowsE h (.bsl b (off + k * 8) 8 n) ((l.drop k).take n) := by
  by_cases hn : n = 0
  · subst hn; exact .inr ⟨by simp, rfl⟩
  · obtain ⟨pre, post, hp, hb⟩ := hr
    have hll : ((l.drop k).take n).length = n := by rw [List.length_take, List.length_drop]; omega
    have hne : (l.drop k).take n ≠ [] := fun e => by rw [e] at hll; simp at hll; omega
    refine .inl ⟨hne, ?_⟩
    have e1 : l = l.take k ++ ((l.drop k).take n ++ (l.drop k).drop n) := by rw [List.take_append_drop, List.take_append_drop]
    have e2 : pre ++ (enc enC l).flatten ++ post = (pre ++ (enc enC (l.take k)).flatten) ++ ((enc enC ((l.drop k).take n)).flatten ++ ((enc enC ((l.drop k).drop n)).flatten ++ post)) := by
      rw [show (enc enC l).flatten = (enc enC (l.take k ++ ((l.drop k).take n ++ (l.drop k).drop n))).flatten by rw [← e1]]
      rw [enc_app, enc_app, List.flatten_append, List.flatten_append]
      simp only [List.append_assoc]
    have h1 : (pre ++ (enc enC (l.take k)).flatten).length = off + k * 8 := by
      rw [List.length_append, hp, flat_len2 (c := enC) (k := 8) (fun _ => rfl), List.length_take]; congr 2; omega
    have h2 : (enc enC ((l.drop k).take n)).flatten.length = n * 8 := by rw [flat_len2 (c := enC) (k := 8) (fun _ => rfl), hll]
    show (if 8 = 8 then (h[b]?).bind fun cs => if off + k * 8 + n * 8 ≤ cs.length then some (chunk 8 n ((cs.drop (off + k * 8)).take (n * 8))) else none else none) = _
    rw [if_pos rfl, hb, e2]
    show (if _ then _ else _) = _
    rw [if_pos (by simp only [List.length_append] at h1 ⊢; omega), List.drop_left' h1, List.take_left' h2]
    have := chunk_flat (c := enC) (k := 8) (fun _ => rfl) ((l.drop k).take n)
    rw [hll] at this
    rw [this]
theorem isRowsE_all {h : List (List AV)} {b off : Nat} {l : List En} (hr : RowsAt h b off l) : IsRowsE h (.bsl b off 8 l.length) l := by
  have := isRowsE_at hr 0 (n := l.length) (by omega)
  rw [Nat.zero_mul, Nat.add_zero, List.drop_zero, List.take_length] at this
  exact this
theorem qap_runX {s : St} {o : Option (Nat × Nat)} {L l : List En} {d : Option Nat} {x : AV} {K : St → List Nat → Prop} (hemp : o = none → L = [])
    (hrow : ∀ p, o = some p → ∃ D : List En, p.2 = D.length * 8 ∧ s.heap[p.1]? = some (enc enC (D ++ L)).flatten ∧ D ++ L ≠ []) (hx : IsRowsE s.heap x l) (hfit : L.length + l.length ≤ 1000000)
    (hK : K (({ s with heap := apQ s.heap o L l, wr := apWr o l s.wr } : St).puts d (qV (apO s.heap o l) (L.length + l.length)) false) []) : xappendA s 8 144 d (qV o L.length) x K := by
  rcases hx with ⟨hl, hx⟩ | ⟨hl, hx⟩
  · unfold apQ apO apWr at hK
    rw [if_neg hl, if_neg hl, if_neg hl] at hK
    have hne : enc enC l ≠ [] := fun e => hl (List.eq_nil_of_length_eq_zero (by have := congrArg List.length e; simpa using this))
    have hel : (enc enC l).length = l.length := by simp
    cases o with
    | none =>
      have hL := hemp rfl
      subst hL
      rw [List.length_nil, Nat.zero_add] at hK hfit
      refine .inr (.inl ⟨enc enC l, hx, hne, flat_plainE l, .inl rfl, by rw [hel]; omega, by rw [hel]; omega, ?_⟩)
      rw [hel]
      exact hK
    | some p =>
      obtain ⟨D, h1, h2, h3⟩ := hrow p rfl
      have hfl := flat_len2 (c := enC) (k := 8) (fun _ => rfl) (D ++ L)
      have hflL := flat_len2 (c := enC) (k := 8) (fun _ => rfl) L
      have hflD := flat_len2 (c := enC) (k := 8) (fun _ => rfl) D
      refine .inr (.inl ⟨enc enC l, hx, hne, flat_plainE l, rfl, _, h2, fun e => ?_, ?_, flat_plainE _, by rw [hel]; omega, by rw [hel]; omega, ?_⟩)
      · rw [e] at hfl
        have : (D ++ L).length ≠ 0 := fun e2 => h3 (List.eq_nil_of_length_eq_zero e2)
        rw [List.length_nil] at hfl; omega
      · rw [hfl, h1, List.length_append]; omega
      · rw [hel, h1, enc_app, List.flatten_append, List.drop_left' (by rw [hflD]), List.take_of_length_le (by rw [hflL]; exact Nat.le_refl _)]
        rw [enc_app, List.flatten_append] at hK
        exact hK
  · subst hl
    unfold apQ apO apWr at hK
    rw [if_pos rfl, if_pos rfl, if_pos rfl] at hK
    cases o with
    | none =>
      exact .inr (.inr ⟨hx, .inl ⟨by omega, rfl, hK⟩⟩)
    | some p => exact .inr (.inr ⟨hx, by omega, hK⟩)
theorem qap_run {s : St} {o : Option (Nat × Nat)} {L l : List En} {d : Option Nat} {nul : Option Bool} {room : Room} {K : St → List Nat → Prop} (hemp : o = none → L = [])
    (hrow : ∀ p, o = some p → ∃ D : List En, p.2 = D.length * 8 ∧ s.heap[p.1]? = some (enc enC (D ++ L)).flatten ∧ D ++ L ≠ []) (hfit : L.length + l.length ≤ 1000000)
    (hK : K (({ s with heap := apQ s.heap o L l, wr := apWr o l s.wr } : St).puts d (qV (apO s.heap o l) (L.length + l.length)) false) []) : xappendA s 8 144 d (qV o L.length) (.sl 8 (enc enC l) nul room) K :=
  qap_runX hemp hrow (isRowsE_sl l nul room) hfit hK
/-- .. and what is appended onto nothing. -/
theorem qapN_run {s : St} {l : List En} {d : Option Nat} {x : AV} {bytes : Nat} {K : St → List Nat → Prop} (hb : bytes = 144) (hx : IsRowsE s.heap x l) (hfit : l.length ≤ 1000000)
    (hK : K (({ s with heap := apQ s.heap none [] l } : St).puts d (qV (apO s.heap none l) l.length) false) []) : xappendN s 8 bytes d (.sl 0 [] (some true) .exact) x K := by
  subst hb
  refine .inl (qap_runX (o := none) (L := []) (fun _ => rfl) (fun p hp => by cases hp) hx (by simpa using hfit) ?_)
  have e : apWr none l s.wr = s.wr := by unfold apWr; split <;> rfl
  rw [e, List.length_nil, Nat.zero_add]
  exact hK
section
variable {h : List (List AV)} {i most : Nat} {o : Option (Nat × Nat)} {L : List En}
/-- Behind a push. -/
def pushH (h : List (List AV)) (i : Nat) (o : Option (Nat × Nat)) (most : Nat) (L l : List En) : List (List AV) := (apQ h o L l).set i (qC (apO h o l) (L.length + l.length) most)
theorem apQ_len (h : List (List AV)) (o : Option (Nat × Nat)) (L l : List En) : h.length ≤ (apQ h o L l).length := by
  unfold apQ
  split
  · exact Nat.le_refl _
  · cases o <;> simp
theorem apQ_get {q : Nat} (hq : q < h.length) (hp : ∀ p, o = some p → q ≠ p.1) (l : List En) : (apQ h o L l)[q]? = h[q]? := by
  unfold apQ
  split
  · rfl
  · cases o with
    | none => exact List.getElem?_append_left hq
    | some p =>
      show (h.set p.1 [] ++ _)[q]? = _
      rw [List.getElem?_append_left (by simpa using hq), List.getElem?_set_ne (fun e => hp p rfl e.symm)]
theorem apQ_lt (hh : ltLL h.length h) (l : List En) : ltLL (apQ h o L l).length (apQ h o L l) := by
  unfold apQ
  split
  · exact hh
  · cases o with
    | none => rw [List.length_append]; exact ltLL_append.2 ⟨ltLL_mono (Nat.le_add_right _ _) hh, ⟨flat_ltE _ _, trivial⟩⟩
    | some p =>
      rw [List.length_append, List.length_set]
      exact ltLL_append.2 ⟨ltLL_set (ltLL_mono (Nat.le_add_right _ _) hh) (by simp), ⟨flat_ltE _ _, trivial⟩⟩
theorem QAt.push (ht : QAt h i o most L) (l : List En) : QAt (pushH h i o most L l) i (apO h o l) most (L ++ l) := by
  have hil := ht.il
  have hlen := apQ_len h o L l
  have hio : ∀ p, o = some p → i ≠ p.1 := fun p hp e => (ht.row p hp).1 e.symm
  refine ⟨?_, ?_, fun e => ?_, fun p hp => ?_⟩
  · unfold pushH; rw [List.getElem?_set_self (by omega), List.length_append]
  · unfold pushH
    rw [List.length_set]
    refine ltLL_set (apQ_lt ht.lt l) ?_
    unfold apO
    split
    · cases o with
      | none => simp [qC, qV]
      | some p => have := ht.bl rfl; simp [qC, qV]; omega
    · rename_i hl
      simp [qC, qV]
      unfold apQ
      rw [if_neg hl]
      cases o <;> simp
  · unfold apO at e
    split at e
    · rename_i hl; rw [ht.emp e, hl]; rfl
    · cases e
  · unfold apO at hp
    split at hp
    · rename_i hl
      subst hl
      obtain ⟨h1, D, h2, h3, h4⟩ := ht.row p hp
      refine ⟨h1, D, h2, ?_, by rw [List.append_nil]; exact h4⟩
      unfold pushH apQ
      rw [if_pos rfl, List.getElem?_set_ne (Ne.symm h1), List.append_nil]; exact h3
    · rename_i hl
      injection hp with hp
      subst hp
      refine ⟨by show h.length ≠ i; omega, [], rfl, ?_, fun e => hl (List.append_eq_nil_iff.1 (List.append_eq_nil_iff.1 e).2).2⟩
      show (pushH h i o most L l)[h.length]? = _
      unfold pushH apQ
      rw [if_neg hl, List.getElem?_set_ne (by omega), List.nil_append]
      cases o with
      | none => rw [ht.emp rfl]; simp
      | some p =>
        show (h.set p.1 [] ++ _)[h.length]? = _
        rw [List.getElem?_append_right (by simp)]; simp
theorem qpush_full (ht : QAt h i o most L) (l : List En) (hm1 : 1 ≤ most) (hm2 : most ≤ 4096) (hlm : L.length ≤ most) (hfull : most < L.length + l.length) : Contract Try.prog 15 [.box i 0, .sl 8 (enc enC l) none .no] h (.v (.int .i64 6)) h [] := by
  have hil := ht.il
  have hig := ht.ig
  have e2 := qV_len o L.length ht.o_len
  have hm0 : ((most : Int) == 0) = false := by simp; omega
  have hw : IntKind.i64.wrap ((most : Int) - L.length) = (most : Int) - L.length := wrap64 (by omega) (by omega)
  have hg : (most : Int) - L.length < l.length := by omega
  refine contract_of k15 mixed (by simp [c15]) fun hh hargs => ?_
  simp [-vLenL, c15, hil, hig, qC, e2, vLenL_sl, qV_id, hm0, hw, hg, hh]
  done
theorem qpush_c (ht : QAt h i o most L) (l : List En) (hf : ∀ e ∈ l, EnFit e) (hm1 : 1 ≤ most) (hm2 : most ≤ 4096) (hfit : L.length + l.length ≤ most) : Contract Try.prog 15 [.box i 0, .sl 8 (enc enC l) none .no] h (.v (.int .i64 0)) (pushH h i o most L l) (i :: apWr o l []) := by
  have hil := ht.il
  have hig := ht.ig
  have e2 := qV_len o L.length ht.o_len
  have hm0 : ((most : Int) == 0) = false := by simp; omega
  have hw : IntKind.i64.wrap ((most : Int) - L.length) = (most : Int) - L.length := wrap64 (by omega) (by omega)
  have hg : ¬ (most : Int) - L.length < l.length := by omega
  have hio : ∀ p, o = some p → i ≠ p.1 := fun p hp e => (ht.row p hp).1 e.symm
  have hat := apQ_get (h := h) (o := o) (L := L) hil hio l
  rw [ht.top] at hat
  have hlt := (ht.push l).lt
  have hlen := apQ_len h o L l
  have hil2 : i < (apQ h o L l).length := by omega
  unfold pushH at *
  rw [List.length_set] at hlt
  refine contract_of k15 mixed (by simp [c15]) fun hh hargs => ?_
  simp [-vLenL, c15, hil, hig, qC, e2, vLenL_sl, qV_id, hm0, hw, hg]
  refine xcall_self (by simp) (qclones_c l (by omega) hf _) ?_
  simp
  refine qap_run ht.emp (fun p hp => (ht.row p hp).2) (by omega) ?_
  have hwr : i ∉ apWr o l [] := by
    unfold apWr
    split
    · simp
    · cases o with
      | none => simp
      | some p => simp; exact hio p rfl
  refine ⟨by simpa using hwr, ?_⟩
  have hil3 := (List.getElem?_eq_some_iff.1 hat).1
  have hig3 := (List.getElem?_eq_some_iff.1 hat).2
  simp only [qC] at hlt hat hig3
  generalize apQ h o L l = H2 at *
  generalize apO h o l = o2 at *
  generalize apWr o l [] = W at *
  simp [qV_id, qV_cells, qV_unown, hat, hil3, hig3, hlt, leqH_take, qC]
  exact ⟨hlen, fun a h1 _ => .inr h1⟩
/-! ### Hidden -/
end
end Go.Proofs.Ytpogpofmakcodaa.Ax
/- The document's queue, over values without memory. -/
namespace Go.Proofs.Ytpogpofmakcodaa.Ax
open Go.RowKit Go By
set_option linter.unusedSimpArgs false
set_option linter.unusedVariables false
set_option maxRecDepth 10000

theorem qnew_c {most : Nat} (h1 : 1 ≤ most) (h2 : most ≤ 4096) (h : List (List AV)) : Contract Try.prog 11 [.v (.int .i64 (most : Int))] h (.tup [.box h.length 0, .v (.int .i64 0)]) (h ++ [qC none 0 most]) [] := by
  refine contract_of k11 mixed (by simp [c11]) fun hh hargs => ?_
  have n1 : ¬ (most : Int) < 1 := by omega
  have n2 : ¬ (most : Int) > 4096 := by omega
  have hl := ltLL_mono (Nat.le_add_right h.length 1) hh
  simp [c11, n1, n2, hl, qC, qV]
  done
theorem rqnew_c {most : Nat} (h1 : 1 ≤ most) (h2 : most ≤ 4096) (h : List (List AV)) : Contract Try.prog 12 [.v (.int .i64 (most : Int))] h (.tup [.box h.length 0, .v (.int .i64 0)]) (h ++ [qC none 0 most]) [] := by
  refine contract_of k12 mixed (by simp [c12]) fun hh hargs => ?_
  have n1 : ¬ (most : Int) < 1 := by omega
  have n2 : ¬ (most : Int) > 4096 := by omega
  have hl := ltLL_mono (Nat.le_add_right h.length 1) hh
  simp [c12, n1, n2, hl, qC, qV]
  done
theorem newQ_at {h : List (List AV)} (hh : ltLL h.length h) (most : Nat) : QAt (h ++ [qC none 0 most]) h.length none most [] := by
  refine ⟨by simp, ?_, fun _ => rfl, fun p hp => by cases hp⟩
  rw [List.length_append]
  exact ltLL_append.2 ⟨ltLL_mono (Nat.le_add_right _ _) hh, by simp [qC, qV]⟩
section
variable {h : List (List AV)} {i most : Nat} {o : Option (Nat × Nat)} {L : List En}
theorem QAt.isRows (ht : QAt h i o most L) : IsRowsE h (qV o L.length) L := by
  cases o with
  | none => exact .inr ⟨ht.emp rfl, rfl⟩
  | some p => exact isRowsE_all (ht.rows rfl)
/-- Behind a list that is put in anew. -/
def putH (h : List (List AV)) (i most : Nat) (l : List En) : List (List AV) := (apQ h none [] l).set i (qC (apO h none l) l.length most)
theorem QAt.put (ht : QAt h i o most L) (l : List En) : QAt (putH h i most l) i (apO h none l) most l := by
  have hil := ht.il
  have hlen := apQ_len h none [] l
  refine ⟨?_, ?_, fun e => ?_, fun p hp => ?_⟩
  · unfold putH; rw [List.getElem?_set_self (by omega)]
  · unfold putH
    rw [List.length_set]
    refine ltLL_set (apQ_lt ht.lt l) ?_
    unfold apO apQ
    by_cases hl : l = []
    · rw [if_pos hl, if_pos hl]; simp [qC, qV]
    · rw [if_neg hl, if_neg hl]; simp [qC, qV]
  · unfold apO at e
    by_cases hl : l = []
    · exact hl
    · rw [if_neg hl] at e; cases e
  · unfold apO at hp
    by_cases hl : l = []
    · rw [if_pos hl] at hp; cases hp
    · rw [if_neg hl] at hp
      injection hp with hp
      subst hp
      refine ⟨by show h.length ≠ i; omega, [], rfl, ?_, hl⟩
      show (putH h i most l)[h.length]? = _
      unfold putH apQ
      rw [if_neg hl, List.getElem?_set_ne (by omega)]; simp
theorem rpush_full (ht : QAt h i o most L) (l : List En) (hm2 : most ≤ 4096) (hlm : L.length ≤ most) (hfull : most < L.length + l.length) : Contract Try.prog 16 [.box i 0, .sl 8 (enc enC l) none .no] h (.v (.int .i64 6)) h [] := by
  have hil := ht.il
  have hig := ht.ig
  have e2 := qV_len o L.length ht.o_len
  have hw : IntKind.i64.wrap ((most : Int) - L.length) = (most : Int) - L.length := wrap64 (by omega) (by omega)
  have hg : (most : Int) - L.length < l.length := by omega
  refine contract_of k16 mixed (by simp [c16]) fun hh hargs => ?_
  simp [-vLenL, c16, hil, hig, qC, e2, vLenL_sl, qV_id, hw, hg, hh]
  done
/-- Behind the document's push. -/
def rpushH (h : List (List AV)) (i most : Nat) (L l : List En) : List (List AV) := (apQ (apQ h none [] L) (apO h none L) L l).set i (qC (apO (apQ h none [] L) (apO h none L) l) (L.length + l.length) most)
theorem rpush_at (ht : QAt h i o most L) (l : List En) : QAt (rpushH h i most L l) i (apO (apQ h none [] L) (apO h none L) l) most (L ++ l) := by
  have h1 := (ht.put L).push l
  have e1 : (putH h i most L).length = (apQ h none [] L).length := by unfold putH; rw [List.length_set]
  have e2 : apO (putH h i most L) (apO h none L) l = apO (apQ h none [] L) (apO h none L) l := by unfold apO; rw [e1]
  have hil := ht.il
  have hlen := apQ_len h none [] L
  have hA : ∀ p, apO h none L = some p → p.1 = h.length := fun p hp => by
    unfold apO at hp
    split at hp
    · cases hp
    · injection hp with hp; rw [← hp]
  have e3 : pushH (putH h i most L) i (apO h none L) most L l = rpushH h i most L l := by
    unfold pushH rpushH
    rw [e2]
    generalize apO (apQ h none [] L) (apO h none L) l = o2
    unfold putH
    generalize apQ h none [] L = H at *
    generalize qC (apO h none L) L.length most = X
    unfold apQ
    split
    · rw [List.set_set]
    · cases hO : apO h none L with
      | none => show (H.set i X ++ _).set i _ = _; rw [List.set_append_left _ _ (by rw [List.length_set]; omega), List.set_set, List.set_append_left _ _ (by omega)]
      | some p =>
        have hp := hA p hO
        show ((H.set i X).set p.1 [] ++ _).set i _ = (H.set p.1 [] ++ _).set i _
        rw [List.set_append_left _ _ (by rw [List.length_set, List.length_set]; omega), List.set_append_left _ _ (by rw [List.length_set]; omega), List.set_comm _ _ (by omega), List.set_set, List.set_comm _ _ (by omega)]
  rw [e3, e2] at h1
  exact h1
theorem rpush_c (ht : QAt h i o most L) (l : List En) (hm2 : most ≤ 4096) (hfit : L.length + l.length ≤ most) : Contract Try.prog 16 [.box i 0, .sl 8 (enc enC l) none .no] h (.v (.int .i64 0)) (rpushH h i most L l) [i] := by
  have hil := ht.il
  have hig := ht.ig
  have htop := ht.top
  have e2 := qV_len o L.length ht.o_len
  have hw : IntKind.i64.wrap ((most : Int) - L.length) = (most : Int) - L.length := wrap64 (by omega) (by omega)
  have hg : ¬ (most : Int) - L.length < l.length := by omega
  have hfin := rpush_at ht l
  have hlt := hfin.lt
  have hmid := ht.put L
  have hA : ∀ p, apO h none L = some p → p.1 = h.length := fun p hp => by
    unfold apO at hp
    split at hp
    · cases hp
    · injection hp with hp; rw [← hp]
  have hl1 := apQ_len h none [] L
  have hg1 : (apQ h none [] L)[i]? = h[i]? := apQ_get hil (fun p hp => by cases hp) L
  have hg2 : (apQ (apQ h none [] L) (apO h none L) L l)[i]? = h[i]? := by
    rw [apQ_get (by omega) (fun p hp => by have := hA p hp; omega) l, hg1]
  have hl2 := apQ_len (apQ h none [] L) (apO h none L) L l
  have hemp : apO h none L = none → L = [] := hmid.emp
  have hrow : ∀ p, apO h none L = some p → ∃ D : List En, p.2 = D.length * 8 ∧ (apQ h none [] L)[p.1]? = some (enc enC (D ++ L)).flatten ∧ D ++ L ≠ [] := fun p hp => by
    obtain ⟨h1, D, h2, h3, h4⟩ := hmid.row p hp
    refine ⟨D, h2, ?_, h4⟩
    unfold putH at h3
    rwa [List.getElem?_set_ne (Ne.symm h1)] at h3
  have hwr : ∀ q ∈ apWr (apO h none L) l [], h.length ≤ q := fun q hq => by
    unfold apWr at hq
    split at hq
    · cases hq
    · cases hO : apO h none L with
      | none => rw [hO] at hq; cases hq
      | some p =>
        rw [hO] at hq
        rw [List.mem_singleton.1 hq, hA p hO]
        exact Nat.le_refl _
  unfold rpushH at *
  rw [List.length_set] at hlt
  rw [htop] at hg2
  refine contract_of k16 mixed (by simp [c16]) fun hh hargs => ?_
  simp [-vLenL, c16, hil, hig, qC, e2, vLenL_sl, qV_id, hw, hg]
  refine qapN_run rfl ht.isRows (by omega) ?_
  simp [qV_id]
  refine qap_run hemp hrow (by omega) ?_
  have hig2 := (List.getElem?_eq_some_iff.1 hg2).2
  have hil2 := (List.getElem?_eq_some_iff.1 hg2).1
  simp only [qC] at hlt hig2
  generalize apQ (apQ h none [] L) (apO h none L) L l = H2 at *
  generalize apO (apQ h none [] L) (apO h none L) l = o2 at *
  generalize apWr (apO h none L) l [] = W at *
  simp [qV_id, qV_cells, qV_unown, hil2, hig2, hlt, leqH_take, qC]
  refine ⟨by omega, fun a h1 h2 => ?_⟩
  have := hwr a h1
  omega
theorem rpop_c {e : En} (ht : QAt h i o most (e :: L)) (hl : L.length ≤ 1000000) : Contract Try.prog 18 [.box i 0] h (.tup [.agg (enC e), .v (.bool true)]) ((putH (h ++ [zEn, enC e]) i most L).set h.length (enC e)) [i] := by
  obtain ⟨p, rfl⟩ := ht.some_of (by simp)
  have hil := ht.il
  have hig := ht.ig
  obtain ⟨cs, hb, hrd⟩ := (ht.rows rfl).reads
  have hbl := ht.bl rfl
  have hbg : h[p.1] = cs := by rw [List.getElem?_eq_getElem hbl] at hb; injection hb
  have hone := hrd.one 0 (by simp)
  have hfit := hrd.fit 0 (by simp)
  simp at hone hfit
  have hA2 := ht.app [zEn, enC e] (by unfold zEn; simp)
  obtain ⟨A, hAd⟩ : ∃ A, A = h ++ [zEn, enC e] := ⟨_, rfl⟩
  have hAl : A.length = h.length + 2 := by rw [hAd]; simp
  have hAi : A[i]? = some (qC (some p) (e :: L).length most) := by rw [hAd, List.getElem?_append_left hil]; exact ht.top
  rw [← hAd] at hA2
  have hput := hA2.put L
  have hlt := hput.lt
  have hAq := apQ_len A none [] L
  have hrows := isRowsE_at (hA2.rows rfl) 1 (n := L.length) (by simp; omega)
  rw [Nat.one_mul, List.drop_succ_cons, List.drop_zero, List.take_length] at hrows
  have hg : ∀ q, q < A.length → (apQ A none [] L)[q]? = A[q]? := fun q hq => apQ_get hq (fun p hp => by cases hp) L
  have hz : A[h.length]? = some zEn := by rw [hAd]; simp
  have hy : A[h.length + 1]? = some (enC e) := by rw [hAd]; simp
  have hgi := hg i (by omega)
  rw [hAi] at hgi
  have hgz := hg h.length (by omega)
  rw [hz] at hgz
  have hgy := hg (h.length + 1) (by omega)
  rw [hy] at hgy
  unfold putH at *
  rw [List.length_set] at hlt
  have hlen0 : (((e :: L).length : Int) == 0) = false := by simp; omega
  simp at hlen0
  have hgi2 : (apQ A none [] L)[i]? = some [.bsl p.1 p.2 8 (e :: L).length, .v (.int .i64 (most : Int))] := hgi
  have hli : i < (apQ A none [] L).length := by omega
  have hlz : h.length < (apQ A none [] L).length := by omega
  have hly : h.length + 1 < (apQ A none [] L).length := by omega
  have hgi3 : (apQ A none [] L)[i] = [.bsl p.1 p.2 8 (e :: L).length, .v (.int .i64 (most : Int))] := (List.getElem?_eq_some_iff.1 hgi2).2
  have hgz3 := (List.getElem?_eq_some_iff.1 hgz).2
  have hgy3 := (List.getElem?_eq_some_iff.1 hgy).2
  have hni : ¬ i = h.length := by omega
  have hni1 : ¬ i = h.length + 1 := by omega
  have hnz : ¬ h.length = i := by omega
  rw [← hAd]
  have hX : qC (apO A none L) L.length most = [qV (apO A none L) L.length, .v (.int .i64 (most : Int))] := rfl
  rw [hX] at hlt ⊢
  have hlt2 : ltLL (apQ A none [] L).length (((apQ A none [] L).set i [qV (apO A none L) L.length, .v (.int .i64 (most : Int))]).set h.length (enC e)) := ltLL_set hlt (by simp)
  unfold zEn at hAd
  have hlay : lay zEn 0 (enC e) = enC e := rfl
  refine contract_of k18 mixed (by simp [c18]) fun hh hargs => ?_
  have hqi := qV_id (apO A none L) L.length
  have hqc := qV_cells (apO A none L) L.length
  have hqu := qV_unown (apO A none L) L.length
  generalize hH2 : apQ A none [] L = H2 at *
  generalize hVo : qV (apO A none L) L.length = Vo at *
  have hig4 : h[i] = [.bsl p.1 p.2 8 (e :: L).length, .v (.int .i64 (most : Int))] := hig
  simp [c18, List.getElem?_append_left hil, List.getElem?_append_left hbl, hil, hbl, hbg, hig4, hlen0, hone, hfit]
  refine ⟨by omega, ?_⟩
  rw [← hAd]
  refine qapN_run rfl hrows hl ?_
  show hold _ _
  simp only [hH2, hVo]
  simp [hqi, hqc, hqu, hli, hgi3, hlz, hly, hgz3, hgy3, hni, hni1, hnz, hlay, hlt2, leqH_take]
  try omega
end
end Go.Proofs.Ytpogpofmakcodaa.Ax
namespace Go.Proofs.Ytpogpofmakcodaa.Ax
open Go.RowKit Go By
set_option linter.unusedSimpArgs false
set_option linter.unusedVariables false
set_option maxRecDepth 10000

theorem qcalled_ids {s : St} {A B : List AV} (hab : idsOf A = idsOf B) (d : Option Nat) (r : AV) (h : List (List AV)) (wr : List Nat) : s.called A d r h wr = s.called B d r h wr := by
  unfold St.called killedBy; rw [hab]
/-- A list of entries, wherever it lies. -/
def EAt (h : List (List AV)) (v : AV) (L : List En) : Prop := v = .sl 8 (enc enC L) none .no ∨ (L = [] ∧ v = .sl 0 [] (some true) .exact) ∨ ∃ b off, v = .bsl b off 8 L.length ∧ RowsAt h b off L
section
variable {h h2 : List (List AV)} {v v2 : AV} {l m : List En}
theorem EAt.sl (h : List (List AV)) (l : List En) : EAt h (.sl 8 (enc enC l) none .no) l := .inl rfl
theorem EAt.id (hr : EAt h v l) : v.idOf = none := by
  rcases hr with rfl | ⟨_, rfl⟩ | ⟨b, off, rfl, _⟩ <;> rfl
theorem EAt.unown (hr : EAt h v l) : v.unown = v := by
  rcases hr with rfl | ⟨_, rfl⟩ | ⟨b, off, rfl, _⟩ <;> rfl
theorem EAt.cells (hr : EAt h v l) : v.cells = some [v] := by
  rcases hr with rfl | ⟨_, rfl⟩ | ⟨b, off, rfl, _⟩ <;> rfl
theorem RowsAt.stay {b off : Nat} (hr : RowsAt h b off l) (hs : h2[b]? = h[b]?) : RowsAt h2 b off l := by
  obtain ⟨pre, post, h1, h3⟩ := hr
  exact ⟨pre, post, h1, by rw [hs]; exact h3⟩
theorem RowsAt.lt {b off : Nat} (hr : RowsAt h b off l) : b < h.length := by
  obtain ⟨pre, post, h1, h3⟩ := hr
  exact (List.getElem?_eq_some_iff.1 h3).1
theorem EAt.stay (hr : EAt h v l) (hs : ∀ b off, v = .bsl b off 8 l.length → h2[b]? = h[b]?) : EAt h2 v l := by
  rcases hr with e | e | ⟨b, off, e, hr⟩
  · exact .inl e
  · exact .inr (.inl e)
  · exact .inr (.inr ⟨b, off, e, hr.stay (hs b off e)⟩)
theorem EAt.app (hr : EAt h v l) (more : List (List AV)) : EAt (h ++ more) v l := by
  rcases hr with e | e | ⟨b, off, e, hr⟩
  · exact .inl e
  · exact .inr (.inl e)
  · exact .inr (.inr ⟨b, off, e, hr.stay (List.getElem?_append_left hr.lt)⟩)
theorem EAt.len (hr : EAt h v l) : vLenL v = ⟨True, .v (.int .i64 (l.length : Int)), false, []⟩ := by
  rcases hr with rfl | ⟨rfl, rfl⟩ | ⟨b, off, rfl, _⟩
  · rw [vLenL_sl]; simp
  · rfl
  · rfl
theorem EAt.lt (hr : EAt h v l) {n : Nat} (hn : h.length ≤ n) : v.lt n := by
  rcases hr with rfl | ⟨rfl, rfl⟩ | ⟨b, off, rfl, hr⟩
  · simp
  · simp
  · simp; exact Nat.lt_of_lt_of_le hr.lt hn
theorem xall {s : St} {d : Option Nat} {K : St → List Nat → Prop} (hv : EAt s.heap v l) (hv2 : EAt s.heap v2 m) (hl : l.length ≤ 1000000) (hf : ∀ e ∈ l, EnFit e) (hg : ∀ e ∈ m, EnFit e)
    (hk : K (s.called [] d (.v (.bool (decide (l = m)))) s.heap []) []) : xcall Try.prog 20 [v, v2] s d K := by
  have id1 := hv.id
  have id2 := hv2.id
  have key : ∀ (w w2 : AV), fitL 0 [v, v2] [w, w2] → idsOf (handL [v, v2] [w, w2]) = [] → Contract Try.prog 20 [w, w2] s.heap (.v (.bool (decide (l = m)))) s.heap [] → xcall Try.prog 20 [v, v2] s d K := fun w w2 h1 h2 hc => by
    refine xcall_of hc h1 (by rw [h2]; exact List.nodup_nil) ?_
    rw [qcalled_ids (B := [])]
    · exact hk
    · rw [h2]; rfl
  rcases hv with rfl | ⟨rfl, rfl⟩ | ⟨b, off, rfl, hr⟩ <;> rcases hv2 with rfl | ⟨rfl, rfl⟩ | ⟨b2, off2, rfl, hr2⟩
  · exact key _ _ (by simp) (by simp [idsOf, handL, hand, AV.idOf]) (rall_c l m hl hf hg _)
  · exact key _ (.sl 8 (enc enC []) none .no) (by simp) (by simp [idsOf, handL, hand, AV.idOf]) (rall_c l [] hl hf hg _)
  · exact key _ _ (by simp) (by simp [idsOf, handL, hand, AV.idOf]) (rallSB_c l m hl hf hg hr2)
  · exact key (.sl 8 (enc enC []) none .no) _ (by simp) (by simp [idsOf, handL, hand, AV.idOf]) (rall_c [] m hl hf hg _)
  · exact key (.sl 8 (enc enC []) none .no) (.sl 8 (enc enC []) none .no) (by simp) (by simp [idsOf, handL, hand, AV.idOf]) (rall_c [] [] hl hf hg _)
  · exact key (.sl 8 (enc enC []) none .no) _ (by simp) (by simp [idsOf, handL, hand, AV.idOf]) (rallSB_c [] m hl hf hg hr2)
  · exact key _ _ (by simp) (by simp [idsOf, handL, hand, AV.idOf]) (rallB_c l m hl hf hg hr)
  · exact key _ (.sl 8 (enc enC []) none .no) (by simp) (by simp [idsOf, handL, hand, AV.idOf]) (rallB_c l [] hl hf hg hr)
  · exact key _ _ (by simp) (by simp [idsOf, handL, hand, AV.idOf]) (rallBB_c l m hl hf hg hr hr2)
end
theorem skN_get : ∀ (L : List En) (hk : skN L < L.length), L[skN L].kind = 8
  | e :: l, hk => by
    have hc := skN_cons e l
    by_cases h8 : e.kind = 8
    · rw [if_pos h8] at hc
      simp [hc, h8]
    · rw [if_neg h8] at hc
      have := skN_get l (by rw [hc] at hk; simpa using hk)
      simp [hc, this]
theorem skN_lt : ∀ (L : List En) (j : Nat) (hj : j < L.length), L[j].kind = 8 → skN L ≤ j
  | e :: l, j, hj, h8 => by
    have hc := skN_cons e l
    by_cases he : e.kind = 8
    · rw [if_pos he] at hc; omega
    · rw [if_neg he] at hc
      cases j with
      | zero => exact absurd h8 he
      | succ j => have := skN_lt l j (by simpa using hj) (by simpa using h8); omega
section
variable {h : List (List AV)} {i most : Nat} {o : Option (Nat × Nat)} {L : List En}
/-- Behind the document's skip. -/
def rskipH (h : List (List AV)) (i most : Nat) (L : List En) : List (List AV) := putH (apQ h none [] (L.take (skN L))) i most (L.drop (skN L))
theorem apQ_none_get {q : Nat} (hq : q < h.length) (l : List En) : (apQ h none [] l)[q]? = h[q]? := apQ_get hq (fun p hp => by cases hp) l
theorem QAt.apQ (ht : QAt h i o most L) (l : List En) : QAt (apQ h none [] l) i o most L :=
  ht.move (apQ_none_get ht.il l) (fun p hp => apQ_none_get (ht.bl hp) l) (apQ_lt ht.lt l)
theorem rskip_at (ht : QAt h i o most L) : QAt (rskipH h i most L) i (apO (Ax.apQ h none [] (L.take (skN L))) none (L.drop (skN L))) most (L.drop (skN L)) := (ht.apQ _).put _
theorem rskip_out (ht : QAt h i o most L) : EAt (rskipH h i most L) (qV (apO h none (L.take (skN L))) (L.take (skN L)).length) (L.take (skN L)) := by
  by_cases hne : L.take (skN L) = []
  · refine .inr (.inl ⟨hne, ?_⟩)
    rw [hne]; rfl
  · refine .inr (.inr ⟨h.length, 0, ?_, [], [], rfl, ?_⟩)
    · unfold apO; rw [if_neg hne]; rfl
    · have hl := apQ_len h none [] (L.take (skN L))
      have hil := ht.il
      have e : (Ax.apQ h none [] (L.take (skN L)))[h.length]? = some (enc enC (L.take (skN L))).flatten := by
        unfold Ax.apQ; rw [if_neg hne]; simp
      have e3 := (List.getElem?_eq_some_iff.1 e).1
      unfold rskipH putH
      rw [List.getElem?_set_ne (by omega), apQ_none_get e3, e]; simp
theorem rskip_c (ht : QAt h i o most L) (hl : L.length ≤ 1000000) : Contract Try.prog 22 [.box i 0] h (qV (apO h none (L.take (skN L))) (L.take (skN L)).length) (rskipH h i most L) [i] := by
  have hil := ht.il
  have hig := ht.ig
  have hle := skN_le L
  cases o with
  | none =>
    have hL := ht.emp rfl
    subst hL
    have hig0 : h[i] = [.sl 0 [] (some true) .exact, .v (.int .i64 (most : Int))] := hig
    have hq0 : Ax.apQ h none [] ([] : List En) = h := if_pos rfl
    have ho0 : apO h none ([] : List En) = none := if_pos rfl
    have hset : h.set i [.sl 0 [] (some true) .exact, .v (.int .i64 (most : Int))] = h := by rw [← hig0]; exact List.set_getElem_self hil
    have e0 : rskipH h i most [] = h := by
      unfold rskipH putH
      simp only [List.take_nil, List.drop_nil, hq0, ho0]
      exact hset
    rw [e0]
    simp only [List.take_nil, ho0]
    refine contract_of k22 mixed (by simp [c22]) fun hh hargs => ?_
    simp [c22]
    refine xloop_ok (D := Nat) (fun j => ⟨[(0, .box i 0), (3, .v (.int .i64 0))], [], h, []⟩) (fun j => True) (fun j => 0) 0 trivial ?_ ?_
    · simp [Leq, hh, leqH_take, hil]
      done
    · intro j hj
      simp [hil, hig, qC, qV]
      refine qapN_run (l := []) rfl (.inr ⟨rfl, rfl⟩) (by simp) ?_
      simp only [hq0, ho0]
      simp [hil, hig0, qV]
      refine qapN_run (l := []) rfl (.inr ⟨rfl, rfl⟩) (by simp) ?_
      simp only [hq0, ho0]
      simp [hil, hig0, qV, hset, hh, leqH_take]
      done
  | some p =>
  obtain ⟨b, off⟩ := p
  have hbl := ht.bl rfl
  dsimp only at hbl
  obtain ⟨cs, hb, hrd⟩ := (ht.rows rfl).reads
  dsimp only at hb hrd
  have hbg : h[b] = cs := by rw [List.getElem?_eq_getElem hbl] at hb; injection hb
  have hig0 : h[i] = [.bsl b off 8 L.length, .v (.int .i64 (most : Int))] := hig
  have hrow := ht.rows rfl
  have hr1 := isRowsE_at hrow 0 (n := skN L) (by omega)
  rw [Nat.zero_mul, Nat.add_zero, List.drop_zero] at hr1
  have hr2 := isRowsE_at hrow (skN L) (n := L.length - skN L) (by omega)
  rw [List.take_of_length_le (by rw [List.length_drop]; omega)] at hr2
  dsimp only at hr1 hr2
  have hat := (ht.apQ (L.take (skN L)))
  have hr2' : IsRowsE (Ax.apQ h none [] (L.take (skN L))) (.bsl b (off + skN L * 8) 8 (L.length - skN L)) (L.drop (skN L)) := by
    have h3 := isRowsE_at (hat.rows rfl) (skN L) (n := L.length - skN L) (by omega)
    rw [List.take_of_length_le (l := L.drop (skN L)) (by rw [List.length_drop]; omega)] at h3
    exact h3
  have hfin := (rskip_at ht).lt
  have hg1 : (Ax.apQ h none [] (L.take (skN L)))[i]? = some [.bsl b off 8 L.length, .v (.int .i64 (most : Int))] := hat.top
  have hl1 := apQ_len h none [] (L.take (skN L))
  have hg2 : (Ax.apQ (Ax.apQ h none [] (L.take (skN L))) none [] (L.drop (skN L)))[i]? = some [.bsl b off 8 L.length, .v (.int .i64 (most : Int))] := by rw [apQ_none_get (by omega)]; exact hg1
  have hl2 := apQ_len (Ax.apQ h none [] (L.take (skN L))) none [] (L.drop (skN L))
  have hn2 : ((L.length : Int) - (skN L : Nat)).toNat = L.length - skN L := by omega
  have htl : (L.take (skN L)).length = skN L := by rw [List.length_take]; omega
  have hdl : (L.drop (skN L)).length = L.length - skN L := List.length_drop ..
  have hle2 : ((skN L : Nat) : Int) ≤ L.length := by omega
  unfold rskipH putH at *
  rw [htl]
  rw [List.length_set] at hfin
  simp only [qC] at hfin ⊢
  have q1 := qV_id (apO h none (L.take (skN L))) (skN L)
  have q2 := qV_unown (apO h none (L.take (skN L))) (skN L)
  have q3 := qV_cells (apO h none (L.take (skN L))) (skN L)
  have q4 : (qV (apO h none (L.take (skN L))) (skN L)).lt (Ax.apQ (Ax.apQ h none [] (L.take (skN L))) none [] (L.drop (skN L))).length := by
    unfold apO
    by_cases he : L.take (skN L) = []
    · rw [if_pos he]; simp [qV]
    · rw [if_neg he]
      have : h.length < (Ax.apQ h none [] (L.take (skN L))).length := by unfold Ax.apQ; rw [if_neg he]; simp
      simp [qV]; omega
  have p1 := qV_id (apO (Ax.apQ h none [] (L.take (skN L))) none (L.drop (skN L))) (L.drop (skN L)).length
  have p2 := qV_unown (apO (Ax.apQ h none [] (L.take (skN L))) none (L.drop (skN L))) (L.drop (skN L)).length
  have p3 := qV_cells (apO (Ax.apQ h none [] (L.take (skN L))) none (L.drop (skN L))) (L.drop (skN L)).length
  rw [hdl] at p1 p2 p3 hfin ⊢
  have hig1 := (List.getElem?_eq_some_iff.1 hg1).2
  have hil1 := (List.getElem?_eq_some_iff.1 hg1).1
  have hig2 := (List.getElem?_eq_some_iff.1 hg2).2
  have hil2 := (List.getElem?_eq_some_iff.1 hg2).1
  refine contract_of k22 mixed (by simp [c22]) fun hh hargs => ?_
  simp [c22]
  refine xloop_ok (D := Nat) (fun j => ⟨[(0, .box i 0), (3, .v (.int .i64 j))], [], h, []⟩) (fun j => j ≤ skN L) (fun j => skN L - j) 0 (Nat.zero_le _) ?_ ?_
  · simp [Leq, hh, leqH_take, hil]
    done
  · intro j hj
    by_cases hlt : j < skN L
    · have hjl : j < L.length := by omega
      have hw : IntKind.i64.wrap ((j : Int) + 1) = (j : Int) + 1 := wrap64 (by omega) (by omega)
      have hk8 : ¬ L[j].kind = 8 := fun e => by have := skN_lt L j hjl e; omega
      have hfit := hrd.fit j hjl
      have hat0 := hrd.at_ hjl 0 (by omega)
      rw [Nat.add_zero, enC_0] at hat0
      have hfj : off + j * 8 < cs.length := by omega
      have hatg : cs[off + j * 8] = .v (.int .i64 L[j].kind) := by rw [List.getElem?_eq_getElem hfj] at hat0; injection hat0
      simp [hil, hig0, hjl, hbl, hbg, hfj, hat0, hatg, hk8, hw]
      refine ⟨j + 1, by omega, by omega, ?_⟩
      simp [Leq, hh, leqH_take, hil]
      done
    · have hjk : j = skN L := by omega
      subst hjk
      have hgo : ∀ K : Prop, K → K := fun _ h => h
      by_cases hjl : skN L < L.length
      · have hk8 := skN_get L hjl
        have hfit := hrd.fit (skN L) hjl
        have hat0 := hrd.at_ hjl 0 (by omega)
        rw [Nat.add_zero, enC_0] at hat0
        have hfj : off + skN L * 8 < cs.length := by omega
        have hatg : cs[off + skN L * 8] = .v (.int .i64 L[skN L].kind) := by rw [List.getElem?_eq_getElem hfj] at hat0; injection hat0
        rw [hk8] at hatg
        simp [hil, hig0, hjl, hbl, hbg, hfj, hat0, hatg, hn2]
        refine ⟨hle, ?_⟩
        refine qapN_run rfl hr1 (by omega) ?_
        simp only [htl]
        generalize hV1 : qV (apO h none (L.take (skN L))) (skN L) = V1 at *
        generalize hV2 : qV (apO (Ax.apQ h none [] (L.take (skN L))) none (L.drop (skN L))) (L.length - skN L) = V2 at *
        generalize hH2 : Ax.apQ (Ax.apQ h none [] (L.take (skN L))) none [] (L.drop (skN L)) = H2 at *
        simp [q1, q2, q3, hil1, hig1, hn2]
        refine ⟨hle, ?_⟩
        refine qapN_run rfl hr2' (by omega) ?_
        simp only [hdl, hV2, hH2]
        simp [q1, q2, q3, p1, p2, p3, hil2, hig2, hfin, hh, leqH_take, q4]
        try omega
      · have hkl : skN L = L.length := by omega
        have hlt3 : ¬ ((skN L : Nat) : Int) < L.length := by omega
        simp [hil, hig0, hjl, hlt3, hn2]
        refine ⟨hle, ?_⟩
        refine qapN_run rfl hr1 (by omega) ?_
        simp only [htl]
        generalize hV1 : qV (apO h none (L.take (skN L))) (skN L) = V1 at *
        generalize hV2 : qV (apO (Ax.apQ h none [] (L.take (skN L))) none (L.drop (skN L))) (L.length - skN L) = V2 at *
        generalize hH2 : Ax.apQ (Ax.apQ h none [] (L.take (skN L))) none [] (L.drop (skN L)) = H2 at *
        simp [q1, q2, q3, hil1, hig1, hn2]
        refine ⟨hle, ?_⟩
        refine qapN_run rfl hr2' (by omega) ?_
        simp only [hdl, hV2, hH2]
        simp [q1, q2, q3, p1, p2, p3, hil2, hig2, hfin, hh, leqH_take, q4]
        try omega
end
end Go.Proofs.Ytpogpofmakcodaa.Ax
