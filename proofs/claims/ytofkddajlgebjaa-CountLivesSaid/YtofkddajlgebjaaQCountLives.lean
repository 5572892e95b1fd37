/- A counter that any calls add to answers as the document says, each time. -/
import Derived.Test.YtofkddajlgebjaaQAxX
import Derived.Test.YtofkddajlgebjaaRows
import Derived.Test.YtofkddajlgebjaaQAxCt
import Derived.Test.YtofkddajlgebjaaQElems
import Derived.WalkKit
import Derived.ProofKit
import Derived.OpenShut
import Derived.ShutString
import Derived.ChangeOld
import Derived.Below
/- The texts of functions over values without memory, as the kernel reckons them out of the program. -/
namespace Go.Proofs.Ytofkddajlgebjaa.Ax
open Go.RowKit Go By

def c14 : XFun := ⟨26, (.seq (.ops [⟨(some 4), (.assign (.const (.bool false))), none⟩]) (.seq (.seq (.ops [⟨(some 6), (.move (.tmp 0)), none⟩, ⟨(some 7), (.lenL (.tmp 6)), none⟩, ⟨(some 8), (.move (.tmp 1)), none⟩, ⟨(some 9), (.lenL (.tmp 8)), none⟩, ⟨(some 10), (.bin .neq (.tmp 7) (.tmp 9)), none⟩]) (.cond (.tmp 10) (.seq (.ops [⟨(some 4), (.assign (.const (.bool false))), none⟩]) .ret) .skip)) (.seq (.seq (.ops [⟨(some 11), (.move (.tmp 0)), none⟩, ⟨(some 12), (.lenL (.tmp 11)), none⟩, ⟨(some 13), (.move (.const (.int .i64 0))), none⟩]) (.block 0 (.loop (.seq (.ops [⟨(some 14), (.bin .lss (.tmp 13) (.tmp 12)), none⟩]) (.seq (.cond (.tmp 14) .skip (.exit 0)) (.seq (.block 1 (.seq (.ops [⟨(some 15), (.move (.tmp 13)), none⟩, ⟨(some 5), (.assign (.tmp 15)), none⟩]) (.seq (.draws (.take ⟨(some 16), (.move (.tmp 0)), none⟩ (.take ⟨(some 17), (.move (.tmp 5)), none⟩ (.take ⟨(some 18), (.iaddr 1 (.tmp 16) (.tmp 17)), none⟩ (.take ⟨(some 19), (.load1 (.tmp 18)), none⟩ (.take ⟨(some 20), (.move (.tmp 1)), none⟩ (.take ⟨(some 21), (.move (.tmp 5)), none⟩ (.take ⟨(some 22), (.iaddr 1 (.tmp 20) (.tmp 21)), none⟩ (.take ⟨(some 23), (.load1 (.tmp 22)), none⟩ (.take ⟨(some 24), (.bin .neq (.tmp 19) (.tmp 23)), none⟩ .done)))))))))) (.cond (.tmp 24) (.seq (.ops [⟨(some 4), (.assign (.const (.bool false))), none⟩]) .ret) .skip)))) (.ops [⟨(some 25), (.bin .add (.tmp 13) (.const (.int .i64 1))), none⟩, ⟨(some 13), (.move (.tmp 25)), none⟩]))))))) (.seq (.ops [⟨(some 4), (.assign (.const (.bool true))), none⟩]) .ret)))), [(.move (.tmp 4))]⟩
theorem k14 : cfun Try.prog 14 = some c14 := by kernel_rfl
end Go.Proofs.Ytofkddajlgebjaa.Ax
/- Layer 37 over values without memory: the document's counter, and what is counted. -/
namespace Go.Proofs.Ytofkddajlgebjaa.Ax
open Go.RowKit Go By
set_option linter.unusedSimpArgs false
set_option linter.unusedVariables false
set_option maxRecDepth 10000

theorem ctrow_at {c xs : List Int} (he : c.take xs.length = xs) {j : Nat} (hj : j < xs.length) : (intsA c)[j]? = some (.v (.int .i64 xs[j])) := by
  have h1 : (c.take xs.length)[j]? = some xs[j] := by rw [he, List.getElem?_eq_getElem hj]
  rw [List.getElem?_take_of_lt hj] at h1
  unfold intsA
  rw [List.getElem?_map, h1]; rfl
section
variable {h : List (List AV)} {xs ys : List Int}
theorem ctequal_sb {b : Nat} {c : List Int} (hb : h[b]? = some (intsA c)) (hc : c.take ys.length = ys) (hl : xs.length ≤ 1000000) : Contract Try.prog 14 [.sl 1 (enc intC xs) none .no, .bsl b 0 1 ys.length] h (.v (.bool (xs == ys))) h [] := by
  have hxl : xs.length ≤ 140737488355328 := by omega
  refine contract_of k14 mixedCt (by simp [c14]) fun hh hargs => ?_
  simp at hargs
  rw [← eqL_beq]
  by_cases hlen : xs.length = ys.length
  · simp [c14, hlen]
    refine xloop_ok (D := Nat) (fun j => ⟨[(0, .sl 1 (enc intC xs) none .no), (1, .bsl b 0 1 ys.length), (12, .v (.int .i64 (ys.length : Int))), (13, .v (.int .i64 (j : Int)))], [], h, []⟩) (fun j => j ≤ xs.length ∧ ∀ i (h1 : i < xs.length) (h2 : i < ys.length), i < j → ((· == ·) : Int → Int → Bool) xs[i] ys[i] = true) (fun j => xs.length - j) 0 ⟨by omega, fun i h1 h2 h3 => by omega⟩ ?_ ?_
    · simp [Leq, hh, hargs, hlen, leqH_take]
      done
    · rintro j ⟨hj, hp⟩
      by_cases hlt : j < ys.length
      · have hlt' : j < xs.length := by omega
        have hw : IntKind.i64.wrap ((j : Int) + 1) = (j : Int) + 1 := wrap64 (by omega) (by omega)
        have g := ctrow_at hc hlt
        simp [hlt, hlt', intC, hb, g]
        by_cases ht : xs[j] = ys[j]
        · simp [ht, hw]
          refine ⟨j + 1, ⟨by omega, fun i h1 h2 h3 => ?_⟩, by omega, ?_⟩
          · rcases Nat.lt_or_ge i j with h4 | h4
            · simpa using hp i h1 h2 h4
            · have : i = j := by omega
              subst this; simpa using ht
          · simp [Leq, hh, hargs, hlen, leqH_take]
            done
        · have : eqL (· == ·) xs ys = false := eqL_no (i := j) hlt' hlt (by simpa using ht)
          simp [hh, this, ht]
          done
      · have hx : eqL (· == ·) xs ys = true := (eqL_iff _ xs ys).2 ⟨hlen, fun i h1 h2 => hp i h1 h2 (by omega)⟩
        simp [hlt, hh, hx]
        done
  · have hne : (xs.length : Int) ≠ ys.length := by omega
    have hx : eqL (· == ·) xs ys = false := eqL_len hlen
    simp [c14, hne, hh, hx, hlen]
    done
end
structure Cd where
  k : Int
  n : Int
def cdC (d : Cd) : List AV := [.v (.int .i64 d.k), .v (.int .i64 d.n)]
@[simp] theorem cdC_len (d : Cd) : (cdC d).length = 2 := of_eq_true (eq_self _)
@[simp] theorem cdC_lt (n : Nat) (l : List Cd) : ltLL n (enc cdC l) = True := eq_true (ltLL_of' fun j e he => by obtain ⟨s, _, rfl⟩ := List.mem_map.1 (List.mem_of_getElem? he); simp [cdC])
def OkCd (d : Cd) : Prop := (-9223372036854775808 ≤ d.k ∧ d.k ≤ 9223372036854775807) ∧ (-9223372036854775808 ≤ d.n ∧ d.n ≤ 9223372036854775807)
theorem sh_cdC : Shape Try.prog 28 cdC OkCd :=
  Shape.map (shape_struct Try.underlying28 (by kernel_rfl) (shape_cons (k := 1) rfl (by kernel_rfl) sh_int (by kernel_rfl) (shape_one (k := 1) rfl (by kernel_rfl) sh_int))) (fun p => ⟨p.1, p.2⟩) (fun p => rfl) (fun _ h => h)
theorem sh_cdCL : Shape Try.prog 22 (fun l : List Cd => [.sl 2 (enc cdC l) none .no]) (fun l => l.length ≤ maxLen ∧ ∀ x ∈ l, OkCd x) := shape_slice Try.underlying22 (by kernel_rfl) (by decide) sh_cdC (fun _ => rfl)

theorem intsA_getE {l : List Int} {j : Nat} (hj : j < (intsA l).length) : (intsA l)[j] = .v (.int .i64 (l[j]'(by simpa using hj))) := by simp [intsA]
structure CrAt (h : List (List AV)) (i b : Nat) (L : List Int) : Prop where
  top : h[i]? = some [.bsl b 0 1 5]
  row : h[b]? = some (intsA L)
  len : L.length = 5
  ne : i ≠ b
section
variable {h : List (List AV)} {i b : Nat} {L : List Int}
theorem CrAt.i_lt (hr : CrAt h i b L) : i < h.length := (List.getElem?_eq_some_iff.1 hr.top).1
theorem CrAt.b_lt (hr : CrAt h i b L) : b < h.length := (List.getElem?_eq_some_iff.1 hr.row).1
theorem CrAt.move {h2 : List (List AV)} (hr : CrAt h i b L) (h1 : h2[i]? = h[i]?) (h3 : h2[b]? = h[b]?) : CrAt h2 i b L := ⟨h1.trans hr.top, h3.trans hr.row, hr.len, hr.ne⟩
theorem CrAt.app (hr : CrAt h i b L) (xs : List (List AV)) : CrAt (h ++ xs) i b L := hr.move (List.getElem?_append_left hr.i_lt) (List.getElem?_append_left hr.b_lt)
theorem crnew_c (h : List (List AV)) : Contract Try.prog 7 [] h (.box (h.length + 1) 0) (h ++ [intsA zerosL, [.bsl h.length 0 1 5]]) [] := by
  refine contract_of k7 mixedCt (by simp [c7]) fun hh hargs => ?_
  have hl2 := ltLL_mono (Nat.le_add_right h.length 2) hh
  simp [c7, hl2]
  exact leqH_refl _ _
theorem crget_c (hr : CrAt h i b L) (k : Int) : Contract Try.prog 11 [.box i 0, .v (.int .i64 k)] h (.v (.int .i64 (getR L k))) h [] := by
  have h1 := hr.top
  have h3 := hr.row
  have h2 := hr.len
  unfold getR
  cases p : okK k with
  | false =>
    refine contract_of k11 mixedCt (by simp [c11]) fun hh hargs => ?_
    rcases okK_no p with g | g
    · simp [c11, g, hh]
    · have g0 : ¬ k < 0 := by omega
      simp [c11, g, g0, hh]
  | true =>
    obtain ⟨m, rfl, hm⟩ := okK_nat p
    have hm' : m < L.length := by omega
    have g1 : ¬ (m : Int) < 0 := by omega
    have g2 : ¬ (5 : Int) ≤ (m : Int) := by omega
    have g3 : (m : Int) < 5 := by omega
    refine contract_of k11 mixedCt (by simp [c11]) fun hh hargs => ?_
    simp [c11, g1, g2, g3, h1, h3, intsA_getE, hm', hh]
theorem cradd_c (hr : CrAt h i b L) (k n : Int) : Contract Try.prog 9 [.box i 0, .v (.int .i64 k), .v (.int .i64 n)] h (.v (.bool (okA k n))) (h.set b (intsA (addR L k n))) [b] := by
  have h1 := hr.top
  have h3 := hr.row
  have h2 := hr.len
  have hb := hr.b_lt
  unfold addR
  cases pA : okA k n with
  | false =>
    have hs : h.set b (intsA L) = h := set_same h3
    simp only [Bool.false_eq_true, if_false, hs]
    refine contract_of k9 mixedCt (by simp [c9]) fun hh hargs => ?_
    by_cases g1 : k < 0
    · simp [c9, g1, hh]
    by_cases g2 : 5 ≤ k
    · simp [c9, g1, g2, hh]
    have : n < 0 ∨ 2147483648 < n := by unfold okA okK at pA; simp at pA; omega
    by_cases hn : n < 0
    · simp [c9, g1, g2, hn, hh]
    · have hn2 : 2147483648 < n := by omega
      simp [c9, g1, g2, hn, hn2, hh]
  | true =>
    have p : okK k = true := by unfold okA at pA; simp at pA; exact pA.1.1
    have hn : ¬ n < 0 ∧ ¬ 2147483648 < n := by unfold okA at pA; simp at pA; omega
    obtain ⟨m, rfl, hm⟩ := okK_nat p
    have hm' : m < L.length := by omega
    have g1 : ¬ (m : Int) < 0 := by omega
    have g2 : ¬ (5 : Int) ≤ (m : Int) := by omega
    have g3 : (m : Int) < 5 := by omega
    have hm4 : m ≤ 4 := by omega
    refine contract_of k9 mixedCt (by simp [c9]) fun hh hargs => ?_
    have hset : ∀ x : Int, (intsA L).set m (.v (.int .i64 x)) = intsA (L.set m x) := fun x => by simp [intsA, List.map_set]
    simp [c9, g1, g2, g3, hn.1, hn.2, h1, h3, intsA_getE, hm', hm, h2, hm4, hset, take_set_len]
    exact ltLL_set hh (by simp)
theorem crtotal_c (hr : CrAt h i b L) : Contract Try.prog 13 [.box i 0] h (.v (.int .i64 (sumW L))) h [] := by
  have h1 := hr.top
  have h3 := hr.row
  have h2 := hr.len
  have hi := hr.i_lt
  refine contract_of k13 mixedCt (by simp [c13]) fun hh hargs => ?_
  simp [c13]
  refine xloop_ok (D := Nat) (fun j => ⟨[(0, .box i 0), (3, .v (.int .i64 (sumW (L.take j)))), (4, .v (.int .i64 (j : Int)))], [], h, []⟩) (fun j => j ≤ 5) (fun j => 5 - j) 0 (by omega) ?_ ?_
  · simp [Leq, hh, sumW, hi]
  · intro j hj
    by_cases hlt : j < 5
    · have hw : IntKind.i64.wrap ((j : Int) + 1) = (j : Int) + 1 := wrap64 (by omega) (by omega)
      have hlt' : j < L.length := by omega
      have hj5 : (j : Int) < 5 := by omega
      simp [hlt, hlt', hj5, h1, h3, intsA_getE, hw, h2]
      refine ⟨j + 1, by omega, by omega, ?_⟩
      simp [Leq, hh, sumW_step hlt', hi]
      done
    · have hj2 : j = 5 := by omega
      subst hj2
      have hB : L.take 5 = L := List.take_of_length_le (by omega)
      simp [hB, h1, hh]
      done
end
end Go.Proofs.Ytofkddajlgebjaa.Ax
/- Layer 37 over values without memory: a counter does any calls as the document says; all together are as many as were added. -/
namespace Go.Proofs.Ytofkddajlgebjaa.Ax
open Go.RowKit Go By
set_option linter.unusedSimpArgs false
set_option linter.unusedVariables false
set_option maxRecDepth 10000

structure CV where
  H : List (List AV)
  L : List Int
  j : Nat
structure CV.Ok (m : Nat) (d : CV) : Prop where
  at_ : CtAt d.H 0 d.L
  x : CrAt d.H 2 1 d.L
  lt : ltLL d.H.length d.H
  j : d.j ≤ m ∧ d.j ≤ 100
def CV.st (l : List Cd) (d : CV) : St := ⟨[(3, .box 0 0), (4, .box 2 0), (9, .sl 2 (enc cdC l) none .no), (10, .v (.int .i64 (l.length : Int))), (11, .v (.int .i64 (d.j : Int)))], [], d.H, []⟩
set_option maxHeartbeats 4000000 in
theorem ctlives_c (l : List Cd) (hl : l.length ≤ maxLen ∧ ∀ x ∈ l, OkCd x) : Contract Try.prog 3 [.sl 2 (enc cdC l) none .no] [] (.v (.bool true)) [] [] := by
  have kn := ctnew_c []
  have kx := crnew_c [ctC zerosL]
  simp only [List.length_nil, List.nil_append, List.length_cons, List.cons_append] at kn kx
  obtain ⟨H0, hH0⟩ : ∃ H0, H0 = [ctC zerosL, intsA zerosL, [.bsl 1 0 1 5]] := ⟨_, rfl⟩
  have c0 : CtAt H0 0 zerosL := ⟨by rw [hH0]; rfl, rfl⟩
  have x0 : CrAt H0 2 1 zerosL := ⟨by rw [hH0]; rfl, by rw [hH0]; rfl, rfl, by decide⟩
  have lt0 : ltLL H0.length H0 := by rw [hH0]; simp
  have kx : Contract Try.prog 7 [] [ctC zerosL] (.box 2 0) H0 [] := by rw [hH0]; exact kx
  have hm : ([] : List (List AV)).length = 0 := rfl
  refine contract_of k3 mixedCt (by simp [c3]) fun hh hargs => ?_
  simp [c3]
  refine xcall_self (by simp) kn ?_
  simp
  refine xcall_self (by simp) kx ?_
  simp
  refine xloop_ok (D := CV) (CV.st l) (CV.Ok l.length) (fun d => l.length - d.j) ⟨H0, zerosL, 0⟩ ⟨c0, x0, lt0, Nat.zero_le _, Nat.zero_le _⟩ ?_ ?_
  · simp [Leq, CV.st, lt0, c0.i_lt, x0.i_lt]
  · rintro ⟨H, L, j⟩ hO
    obtain ⟨hat, hx, hlt, hjl, hj100⟩ := hO
    dsimp only at hat hx hlt hjl hj100
    unfold CV.st
    dsimp only
    have fin : ∀ (h2 : List (List AV)), CtAt h2 0 L → CrAt h2 2 1 L → h2[2]? = some [.bsl 1 0 1 5] ∧ Contract Try.prog 15 [.box 0 0] h2 (.sl 1 (enc intC L) none .no) h2 [] ∧ Contract Try.prog 14 [.sl 1 (enc intC L) none .no, .bsl 1 0 1 5] h2 (.v (.bool true)) h2 [] := fun h2 g1 g2 => by
      refine ⟨g2.top, ctlist_c g1, ?_⟩
      have := ctequal_sb (xs := L) (ys := L) g2.row (List.take_of_length_le (Nat.le_refl _)) (by have := g2.len; omega)
      rw [g2.len, beq_self_eq_true] at this
      exact this
    by_cases hjn : j < l.length
    · obtain ⟨k, hk⟩ : ∃ k, k = l[j] := ⟨_, rfl⟩
      have hkm : k ∈ l := by rw [hk]; exact List.getElem_mem hjn
      have hw : IntKind.i64.wrap ((j : Int) + 1) = (j : Int) + 1 := wrap64 (by omega) (by omega)
      have h5 : 2 < H.length := hx.i_lt
      have hat1 := hat.app [cdC k]
      have hx1 := hx.app [cdC k]
      have hlt1 : ltLL (H ++ [cdC k]).length (H ++ [cdC k]) := by
        have := ltLL_mono (Nat.le_add_right H.length 1) hlt
        simp [this, cdC]
      by_cases h100 : 100 ≤ j
      · have h100' : (100 : Int) ≤ (j : Int) := by omega
        obtain ⟨f1, f2, f3⟩ := fin _ hat1 hx1
        simp only [cdC] at f1 f2 f3
        simp [hjn, ← hk, cdC, h100', f1]
        refine xcall_self (by simp) f2 ?_
        simp
        refine xcall_self (by simp) f3 ?_
        simp
        refine xcall_self (by simp) (ctawake_c _) ?_
        simp
      have h100' : ¬ (100 : Int) ≤ (j : Int) := by omega
      have kc := ctadd_c hat1 k.k k.n
      obtain ⟨L2, hL2⟩ : ∃ L2, L2 = addR L k.k k.n := ⟨_, rfl⟩
      have hL2n : L2.length = 5 := by rw [hL2, addR_len, hat.len]
      obtain ⟨B, hB⟩ : ∃ B, B = okA k.k k.n := ⟨_, rfl⟩
      rw [← hL2, ← hB] at kc
      obtain ⟨H1, hH1⟩ : ∃ H1, H1 = H ++ [cdC k] := ⟨_, rfl⟩
      rw [← hH1] at kc hat1 hx1 hlt1
      have l1 : H1.length = H.length + 1 := by rw [hH1]; simp
      have b1 : H1[H.length]? = some (cdC k) := by rw [hH1]; simp
      obtain ⟨H2, hH2⟩ : ∃ H2, H2 = H1.set 0 (ctC L2) := ⟨_, rfl⟩
      rw [← hH2] at kc
      have l2 : H2.length = H1.length := by rw [hH2]; simp
      have q2 : ∀ q, q ≠ 0 → H2[q]? = H1[q]? := fun q hq => by rw [hH2]; exact List.getElem?_set_ne (Ne.symm hq)
      have hx2 : CrAt H2 2 1 L := hx1.move (q2 2 (by decide)) (q2 1 (by decide))
      have kr := cradd_c hx2 k.k k.n
      rw [← hL2, ← hB] at kr
      obtain ⟨H3, hH3⟩ : ∃ H3, H3 = H2.set 1 (intsA L2) := ⟨_, rfl⟩
      rw [← hH3] at kr
      have l3 : H3.length = H2.length := by rw [hH3]; simp
      have q3 : ∀ q, q ≠ 1 → H3[q]? = H2[q]? := fun q hq => by rw [hH3]; exact List.getElem?_set_ne (Ne.symm hq)
      have hat3 : CtAt H3 0 L2 := ⟨by rw [q3 0 (by decide), hH2, List.getElem?_set_self (by omega)], hL2n⟩
      have hx3 : CrAt H3 2 1 L2 := ⟨(q3 2 (by decide)).trans hx2.top, by rw [hH3, List.getElem?_set_self (by omega)], hL2n, by decide⟩
      have b2 : H2[H.length]? = some (cdC k) := (q2 _ (by omega)).trans b1
      have b3 : H3[H.length]? = some (cdC k) := (q3 _ (by omega)).trans b2
      have lt2 : ltLL H2.length H2 := by rw [l2, hH2]; exact ltLL_set hlt1 (by simp)
      have lt3 : ltLL H3.length H3 := by rw [l3, hH3]; exact ltLL_set lt2 (by simp)
      have g1 := ctget_c hat3 k.k
      have g2 := crget_c hx3 k.k
      have g3 := cttotal_c hat3
      have g4 := crtotal_c hx3
      obtain ⟨kk, kn2⟩ := k
      simp only [cdC] at b1 b2 b3 hH1
      simp only at kc kr g1 g2 g3 g4 hB
      have hne : ¬ H = [] := by intro e; rw [e] at h5; cases h5
      have hne1 : ¬ H.length = 1 := by omega
      have hne2 : ¬ H.length = 2 := by omega
      simp [hjn, ← hk, cdC, h100']
      rw [← hH1]
      refine xcall_of kc (by simp) (by simp) ?_
      simp [hne, hne1, hne2, b2]
      refine xcall_of kr (by simp) (by simp) ?_
      simp [hne, hne1, hne2, b3]
      refine xcall_of g1 (by simp) (by simp) ?_
      simp [hne, hne1, hne2, b3]
      refine xcall_of g2 (by simp) (by simp) ?_
      simp
      refine xcall_of g3 (by simp) (by simp) ?_
      simp
      refine xcall_of g4 (by simp) (by simp) ?_
      simp [hw]
      refine ⟨⟨H3, L2, j + 1⟩, ⟨hat3, hx3, lt3, by show j + 1 ≤ l.length; omega, by show j + 1 ≤ 100; omega⟩, by show l.length - (j + 1) < l.length - j; omega, ?_⟩
      simp [Leq, CV.st, lt3, hat3.i_lt, hx3.i_lt]
    · have hjl2 : j = l.length := by omega
      subst hjl2
      obtain ⟨f1, f2, f3⟩ := fin _ hat hx
      simp [f1]
      refine xcall_self (by simp) f2 ?_
      simp
      refine xcall_self (by simp) f3 ?_
      simp
      refine xcall_self (by simp) (ctawake_c _) ?_
      simp
/-! ### All together -/
theorem sum_set : ∀ (L : List Int) (m : Nat) (x : Int) (hm : m < L.length), (L.set m (L[m] + x)).sum = L.sum + x
  | [], m, x, hm => by simp at hm
  | a :: r, 0, x, hm => by simp; omega
  | a :: r, m + 1, x, hm => by
    simp only [List.set_cons_succ, List.getElem_cons_succ, List.sum_cons]
    rw [sum_set r m x (by simpa using hm)]; omega
theorem sum_nonneg : ∀ (r : List Int), (∀ a ∈ r, 0 ≤ a) → 0 ≤ r.sum
  | [], _ => by simp
  | a :: r, h => by
    have h1 := h a (by simp)
    have h2 := sum_nonneg r fun b hb => h b (by simp [hb])
    rw [List.sum_cons]; omega
theorem mem_le_sum : ∀ (L : List Int), (∀ a ∈ L, 0 ≤ a) → ∀ a ∈ L, a ≤ L.sum
  | [], _, a, h => by cases h
  | b :: r, h0, a, h => by
    have h1 := h0 b (by simp)
    have h2 : 0 ≤ r.sum := sum_nonneg r fun c hc => h0 c (by simp [hc])
    rw [List.sum_cons]
    rcases List.mem_cons.1 h with rfl | h
    · omega
    · have := mem_le_sum r (fun c hc => h0 c (by simp [hc])) a h
      omega
/-- Numbers that are not below 0, together as many as N. -/
structure Many (L : List Int) (N : Nat) : Prop where
  pos : ∀ a ∈ L, 0 ≤ a
  sum : L.sum = (N : Int)
theorem Many.add {L : List Int} {N : Nat} (h : Many L N) (hL : L.length = 5) {k n : Int} (hN : N ≤ 1000000000000) (hA : okA k n = true) : ∃ m : Nat, n = (m : Int) ∧ m ≤ 2147483648 ∧ Many (addR L k n) (N + m) := by
  have p : okK k = true := by unfold okA at hA; simp at hA; exact hA.1.1
  have hn : 0 ≤ n ∧ n ≤ 2147483648 := by unfold okA at hA; simp at hA; omega
  obtain ⟨q, rfl, hq⟩ := okK_nat p
  have hq' : q < L.length := by omega
  obtain ⟨m, rfl⟩ : ∃ m : Nat, n = (m : Int) := ⟨n.toNat, by omega⟩
  have hle := mem_le_sum L h.pos L[q] (List.getElem_mem hq')
  have hpos := h.pos L[q] (List.getElem_mem hq')
  rw [h.sum] at hle
  refine ⟨m, rfl, by omega, ?_⟩
  have e : addR L (q : Int) (m : Int) = L.set q (L[q] + (m : Int)) := by
    unfold addR
    rw [if_pos hA, Int.toNat_natCast, List.getD_eq_getElem?_getD, List.getElem?_eq_getElem hq', Option.getD_some, wrap64 (by omega) (by omega)]
  rw [e]
  refine ⟨fun a ha => ?_, by rw [sum_set L q _ hq', h.sum]; omega⟩
  rcases List.mem_or_eq_of_mem_set ha with ha | rfl
  · exact h.pos a ha
  · omega
end Go.Proofs.Ytofkddajlgebjaa.Ax
namespace Go.Proofs.Ytofkddajlgebjaa.countLives
open Go.ChangeShapes Go.WideShapes Go.ChangeAt Go.RowKit
open Go.ChangeMaps (open_string shut_string)
set_option linter.unusedVariables false

theorem own : ownKnob Try.prog.godebug = none := by kernel_rfl
theorem laidOut : laidOutB Try.prog = true := by kernel_rfl

set_option maxRecDepth 100000 in
theorem lifted (os : Os) (started : os.Started) (H : Type) (enc : TypeId × Value → H) :
    ReturnsInHanded {} Try.checked os 3 .any (Rows.countLivesSpec.pre6 enc Try.prog Try.f3 Rows.countLivesRow.domain false) (Rows.countLivesSpec.post enc Try.prog Try.f3 false true false false) := by
  refine returnsInHanded_of_change (C := Try.checked) own started (by kernel_rfl) Try.func3
    (ChangeSpec.witness6 (enc := enc) (C := Try.checked) false ⟨#[], #[.slice none 0 0], []⟩ 8 (by kernel_rfl) (by kernel_rfl) (by kernel_rfl) (by kernel_rfl)) ?_
  intro W base args ds gs before hval0 hW hcnd _
  have hval : ∀ (j : Nat) t v, Try.f3.params[j]? = some t → args[j]? = some v → Value.okWide Try.prog W .any base t v := hval0
  have hW' := hW
  obtain ⟨p, q, hA0, hV, rfl, hfz, hnd⟩ := hW
  have hA : DataW.TrodAll enc Try.prog W 0 (fun _ => true) true Try.f3.params.toList args.toList ds p := hA0
  rw [Try.params3] at hA hval
  obtain ⟨v0, vs0, d0, ds0, p0, q0, hargs, rfl, rfl, h0, r0⟩ := trodAll_cons hA
  obtain ⟨rfl, rfl, rfl⟩ := trodAll_nil r0
  obtain rfl : args = #[v0] := by cases args; simp_all
  obtain ⟨rfl, rfl⟩ := trodVars_none hV
  have k0 := h0
  have lt0 : ∀ x ∈ p0, x.block < W.heap.size := by obtain ⟨m, hm⟩ := k0; exact DataW.trod_lt m _ _ _ hm
  obtain ⟨a0, ok0, s0⟩ := Ax.arg_slice Try.underlying22 Ax.sh_cdCL (hval 0 22 v0 rfl rfl) h0
  clear hA0 hval0
  refine (Ax.law_walk (w := W) (Ax.dom_any W) (Ax.ctlives_c a0 ok0) (by simp) (.cons s0 .nil)).mono fun e W' ⟨he, bel⟩ => ?_
  subst he
  exact ⟨_, rfl, _, _, _, [], _, [], hW', trodAll_mk1 (shut_bool Try.underlying4 _), (trodAll_cons_mk (Below.trod laidOut (by kernel_rfl) (of_decide_eq_true (by kernel_rfl)) k0 bel lt0) trodAll_mk0), rfl, bel.frame _, fun h => by cases h⟩

theorem over : Rows.countLivesRow.holds Try.pinned (OpenSpec.ofChange Rows.countLivesSpec) :=
  OpenClaim.holds_of_wide 3 Try.f3 rfl rfl rfl rfl rfl rfl rfl ⟨rfl, rfl, rfl, rfl, rfl⟩ rfl rfl rfl rfl rfl (by kernel_rfl) Try.func3 (by kernel_rfl)
    (of_decide_eq_true (by kernel_rfl)) (by unfold Func.isWrapper; first | (rw [if_pos (by decide +kernel)]; kernel_rfl) | (rw [if_neg (by decide +kernel)]; exact ⟨rfl, rfl⟩))
    (fun os started H enc _ => lifted os started H enc)

theorem proved : Rows.CountLivesSaid := over
#print axioms proved
end Go.Proofs.Ytofkddajlgebjaa.countLives
