/- What a counter has, all together, is all that was added. -/
import Derived.Test.YtofkddajlgebjaaQAxX
import Derived.Test.YtofkddajlgebjaaRows
import Derived.Test.YtofkddajlgebjaaQAxCt
import Derived.Test.YtofkddajlgebjaaQElems
import Derived.WalkKit
import Derived.ProofKit
import Derived.OpenShut
import Derived.ShutString
import Derived.ChangeOld
import Derived.Below
/- The texts of functions over values without memory, as the kernel reckons them out of the program. -/
namespace Go.Proofs.Ytofkddajlgebjaa.Ax
open Go.RowKit Go By

end Go.Proofs.Ytofkddajlgebjaa.Ax
/- Layer 37 over values without memory: the document's counter, and what is counted. -/
namespace Go.Proofs.Ytofkddajlgebjaa.Ax
open Go.RowKit Go By
set_option linter.unusedSimpArgs false
set_option linter.unusedVariables false
set_option maxRecDepth 10000

section
variable {h : List (List AV)} {xs ys : List Int}
end
structure Cd where
  k : Int
  n : Int
def cdC (d : Cd) : List AV := [.v (.int .i64 d.k), .v (.int .i64 d.n)]
@[simp] theorem cdC_len (d : Cd) : (cdC d).length = 2 := of_eq_true (eq_self _)
@[simp] theorem cdC_lt (n : Nat) (l : List Cd) : ltLL n (enc cdC l) = True := eq_true (ltLL_of' fun j e he => by obtain ⟨s, _, rfl⟩ := List.mem_map.1 (List.mem_of_getElem? he); simp [cdC])
def OkCd (d : Cd) : Prop := (-9223372036854775808 ≤ d.k ∧ d.k ≤ 9223372036854775807) ∧ (-9223372036854775808 ≤ d.n ∧ d.n ≤ 9223372036854775807)
theorem sh_cdC : Shape Try.prog 28 cdC OkCd :=
  Shape.map (shape_struct Try.underlying28 (by kernel_rfl) (shape_cons (k := 1) rfl (by kernel_rfl) sh_int (by kernel_rfl) (shape_one (k := 1) rfl (by kernel_rfl) sh_int))) (fun p => ⟨p.1, p.2⟩) (fun p => rfl) (fun _ h => h)
theorem sh_cdCL : Shape Try.prog 22 (fun l : List Cd => [.sl 2 (enc cdC l) none .no]) (fun l => l.length ≤ maxLen ∧ ∀ x ∈ l, OkCd x) := shape_slice Try.underlying22 (by kernel_rfl) (by decide) sh_cdC (fun _ => rfl)

section
variable {h : List (List AV)} {i b : Nat} {L : List Int}
end
end Go.Proofs.Ytofkddajlgebjaa.Ax
/- Layer 37 over values without memory: a counter does any calls as the document says; all together are as many as were added. -/
namespace Go.Proofs.Ytofkddajlgebjaa.Ax
open Go.RowKit Go By
set_option linter.unusedSimpArgs false
set_option linter.unusedVariables false
set_option maxRecDepth 10000

/-! ### All together -/
theorem sum_set : ∀ (L : List Int) (m : Nat) (x : Int) (hm : m < L.length), (L.set m (L[m] + x)).sum = L.sum + x
  | [], m, x, hm => by simp at hm
  | a :: r, 0, x, hm => by simp; omega
  | a :: r, m + 1, x, hm => by
    simp only [List.set_cons_succ, List.getElem_cons_succ, List.sum_cons]
    rw [sum_set r m x (by simpa using hm)]; omega
theorem sum_nonneg : ∀ (r : List Int), (∀ a ∈ r, 0 ≤ a) → 0 ≤ r.sum
  | [], _ => by simp
  | a :: r, h => by
    have h1 := h a (by simp)
    have h2 := sum_nonneg r fun b hb => h b (by simp [hb])
    rw [List.sum_cons]; omega
theorem sumW_from : ∀ (L : List Int) (s : Int), 0 ≤ s → (∀ a ∈ L, 0 ≤ a) → s + L.sum ≤ 9223372036854775807 → L.foldl (fun s n => IntKind.i64.wrap (s + n)) s = s + L.sum
  | [], s, h0, ha, hb => by simp
  | a :: r, s, h0, ha, hb => by
    have h1 := ha a (by simp)
    have h2 : 0 ≤ r.sum := sum_nonneg r fun b hb => ha b (by simp [hb])
    rw [List.sum_cons] at hb
    rw [List.foldl_cons, wrap64 (by omega) (by omega), sumW_from r (s + a) (by omega) (fun b hb => ha b (by simp [hb])) (by omega), List.sum_cons]
    omega
theorem mem_le_sum : ∀ (L : List Int), (∀ a ∈ L, 0 ≤ a) → ∀ a ∈ L, a ≤ L.sum
  | [], _, a, h => by cases h
  | b :: r, h0, a, h => by
    have h1 := h0 b (by simp)
    have h2 : 0 ≤ r.sum := sum_nonneg r fun c hc => h0 c (by simp [hc])
    rw [List.sum_cons]
    rcases List.mem_cons.1 h with rfl | h
    · omega
    · have := mem_le_sum r (fun c hc => h0 c (by simp [hc])) a h
      omega
/-- Numbers that are not below 0, together as many as N. -/
structure Many (L : List Int) (N : Nat) : Prop where
  pos : ∀ a ∈ L, 0 ≤ a
  sum : L.sum = (N : Int)
theorem Many.sumW {L : List Int} {N : Nat} (h : Many L N) (hN : N ≤ 9223372036854775807) : sumW L = (N : Int) := by
  unfold Ax.sumW
  rw [sumW_from L 0 (Int.le_refl _) h.pos (by rw [h.sum]; omega), h.sum]; omega
theorem Many.add {L : List Int} {N : Nat} (h : Many L N) (hL : L.length = 5) {k n : Int} (hN : N ≤ 1000000000000) (hA : okA k n = true) : ∃ m : Nat, n = (m : Int) ∧ m ≤ 2147483648 ∧ Many (addR L k n) (N + m) := by
  have p : okK k = true := by unfold okA at hA; simp at hA; exact hA.1.1
  have hn : 0 ≤ n ∧ n ≤ 2147483648 := by unfold okA at hA; simp at hA; omega
  obtain ⟨q, rfl, hq⟩ := okK_nat p
  have hq' : q < L.length := by omega
  obtain ⟨m, rfl⟩ : ∃ m : Nat, n = (m : Int) := ⟨n.toNat, by omega⟩
  have hle := mem_le_sum L h.pos L[q] (List.getElem_mem hq')
  have hpos := h.pos L[q] (List.getElem_mem hq')
  rw [h.sum] at hle
  refine ⟨m, rfl, by omega, ?_⟩
  have e : addR L (q : Int) (m : Int) = L.set q (L[q] + (m : Int)) := by
    unfold addR
    rw [if_pos hA, Int.toNat_natCast, List.getD_eq_getElem?_getD, List.getElem?_eq_getElem hq', Option.getD_some, wrap64 (by omega) (by omega)]
  rw [e]
  refine ⟨fun a ha => ?_, by rw [sum_set L q _ hq', h.sum]; omega⟩
  rcases List.mem_or_eq_of_mem_set ha with ha | rfl
  · exact h.pos a ha
  · omega
structure CT where
  H : List (List AV)
  L : List Int
  N : Nat
  j : Nat
structure CT.Ok (m : Nat) (d : CT) : Prop where
  at_ : CtAt d.H 0 d.L
  many : Many d.L d.N
  lt : ltLL d.H.length d.H
  j : d.j ≤ m ∧ d.j ≤ 100 ∧ d.N ≤ 2147483648 * d.j
def CT.st (l : List Cd) (d : CT) : St := ⟨[(3, .box 0 0), (4, .v (.int .i64 (d.N : Int))), (11, .sl 2 (enc cdC l) none .no), (12, .v (.int .i64 (l.length : Int))), (13, .v (.int .i64 (d.j : Int)))], [], d.H, []⟩
def CT.st2 (d : CT) : St := ⟨[(3, .box 0 0), (4, .v (.int .i64 (d.N : Int)))], [], d.H, []⟩
theorem many_zero : Many zerosL 0 := ⟨by decide, by decide⟩
set_option maxHeartbeats 4000000 in
theorem cttotal_l (l : List Cd) (hl : l.length ≤ maxLen ∧ ∀ x ∈ l, OkCd x) : Contract Try.prog 4 [.sl 2 (enc cdC l) none .no] [] (.v (.bool true)) [] [] := by
  have kn := ctnew_c []
  simp only [List.length_nil, List.nil_append] at kn
  obtain ⟨H0, hH0⟩ : ∃ H0, H0 = [ctC zerosL] := ⟨_, rfl⟩
  rw [← hH0] at kn
  have c0 : CtAt H0 0 zerosL := ⟨by rw [hH0]; rfl, rfl⟩
  have lt0 : ltLL H0.length H0 := by rw [hH0]; simp
  refine contract_cut (XCode.cuts [false, false, false, true] c4.code) k4 rfl mixedCt (by simp [c4]) fun hh hargs => ?_
  simp [c4]
  refine xcall_self (by simp) kn ?_
  simp
  refine xseq_some (β := { d : CT // d.Ok l.length }) (fun d => CT.st2 d.1) ?_ ?_
  · simp
    refine xloop_ok (D := CT) (CT.st l) (CT.Ok l.length) (fun d => l.length - d.j) ⟨H0, zerosL, 0, 0⟩ ⟨c0, many_zero, lt0, Nat.zero_le _, Nat.zero_le _, Nat.zero_le _⟩ ?_ ?_
    · simp [Leq, CT.st, lt0, c0.i_lt]
    · rintro ⟨H, L, N, j⟩ hO
      obtain ⟨hat, hmany, hlt, hjl, hj100, hN⟩ := id hO
      dsimp only at hat hmany hlt hjl hj100 hN
      unfold CT.st
      dsimp only
      have h5 : 0 < H.length := hat.i_lt
      by_cases hjn : j < l.length
      · obtain ⟨k, hk⟩ : ∃ k, k = l[j] := ⟨_, rfl⟩
        have hw : IntKind.i64.wrap ((j : Int) + 1) = (j : Int) + 1 := wrap64 (by omega) (by omega)
        have hat1 := hat.app [cdC k]
        have hlt1 : ltLL (H ++ [cdC k]).length (H ++ [cdC k]) := by
          have := ltLL_mono (Nat.le_add_right H.length 1) hlt
          simp [this, cdC]
        obtain ⟨H1, hH1⟩ : ∃ H1, H1 = H ++ [cdC k] := ⟨_, rfl⟩
        rw [← hH1] at hat1 hlt1
        have hne : ¬ H = [] := by intro e; rw [e] at h5; cases h5
        by_cases h100 : 100 ≤ j
        · have h100' : (100 : Int) ≤ (j : Int) := by omega
          simp only [cdC] at hH1
          simp [hjn, ← hk, cdC, h100']
          rw [← hH1]
          refine ⟨⟨H1, L, N, j⟩, ⟨hat1, hmany, hlt1, hjl, hj100, hN⟩, ?_⟩
          simp [Leq, CT.st2, hlt1, hat1.i_lt]
          done
        have h100' : ¬ (100 : Int) ≤ (j : Int) := by omega
        have kc := ctadd_c hat1 k.k k.n
        obtain ⟨L2, hL2⟩ : ∃ L2, L2 = addR L k.k k.n := ⟨_, rfl⟩
        have hL2n : L2.length = 5 := by rw [hL2, addR_len, hat.len]
        have l1 : H1.length = H.length + 1 := by rw [hH1]; simp
        have b1 : H1[H.length]? = some (cdC k) := by rw [hH1]; simp
        have hno : okA k.k k.n = false → L2 = L := fun e => by rw [hL2]; unfold addR; rw [e]; rfl
        have hyes : okA k.k k.n = true → ∃ m : Nat, k.n = (m : Int) ∧ m ≤ 2147483648 ∧ Many L2 (N + m) := fun e => by rw [hL2]; exact hmany.add hat.len (by omega) e
        rw [← hL2] at kc
        obtain ⟨H2, hH2⟩ : ∃ H2, H2 = H1.set 0 (ctC L2) := ⟨_, rfl⟩
        rw [← hH2] at kc
        have l2 : H2.length = H1.length := by rw [hH2]; simp
        have q2 : ∀ q, q ≠ 0 → H2[q]? = H1[q]? := fun q hq => by rw [hH2]; exact List.getElem?_set_ne (Ne.symm hq)
        have hat2 : CtAt H2 0 L2 := ⟨by rw [hH2, List.getElem?_set_self (by omega)], hL2n⟩
        have b2 : H2[H.length]? = some (cdC k) := (q2 _ (by omega)).trans b1
        have lt2 : ltLL H2.length H2 := by rw [l2, hH2]; exact ltLL_set hlt1 (by simp)
        obtain ⟨kk, kn2⟩ := k
        simp only [cdC] at b1 b2 hH1
        simp only at kc hno hyes
        simp [hjn, ← hk, cdC, h100']
        rw [← hH1]
        refine xcall_of kc (by simp) (by simp) ?_
        cases p : okA kk kn2 with
        | true =>
          obtain ⟨m, rfl, hm, hmany2⟩ := hyes p
          have hw2 : IntKind.i64.wrap ((N : Int) + (m : Int)) = ((N + m : Nat) : Int) := by rw [wrap64 (by omega) (by omega)]; omega
          simp [p, hne, b2, hw, hw2]
          refine ⟨⟨H2, L2, N + m, j + 1⟩, ⟨hat2, hmany2, lt2, by show j + 1 ≤ l.length; omega, by show j + 1 ≤ 100; omega, by show N + m ≤ 2147483648 * (j + 1); omega⟩, by show l.length - (j + 1) < l.length - j; omega, ?_⟩
          simp [Leq, CT.st, lt2, hat2.i_lt]
          done
        | false =>
          have hL := hno p
          rw [hL] at hat2
          simp [p, hne, b2, hw]
          refine ⟨⟨H2, L, N, j + 1⟩, ⟨hat2, hmany, lt2, by show j + 1 ≤ l.length; omega, by show j + 1 ≤ 100; omega, by show N ≤ 2147483648 * (j + 1); omega⟩, by show l.length - (j + 1) < l.length - j; omega, ?_⟩
          simp [Leq, CT.st, lt2, hat2.i_lt]
          done
      · simp [hjn]
        refine ⟨⟨H, L, N, j⟩, hO, ?_⟩
        simp [Leq, CT.st2, hlt, hat.i_lt]
        done
  · rintro ⟨⟨H, L, N, j⟩, hat, hmany, hlt, hjl, hj100, hN⟩
    dsimp only at hat hmany hlt hjl hj100 hN
    unfold CT.st2
    dsimp only
    have hs := hmany.sumW (by omega)
    have h2 := hat.len
    simp
    refine xcall_self (by simp) (ctlist_c hat) ?_
    simp
    refine xloop_ok (D := Nat) (fun j => ⟨[(3, .box 0 0), (4, .v (.int .i64 (N : Int))), (7, .v (.int .i64 (sumW (L.take j)))), (32, .sl 1 (enc intC L) none .no), (33, .v (.int .i64 (L.length : Int))), (34, .v (.int .i64 (j : Int)))], [], H, []⟩) (fun j => j ≤ L.length) (fun j => L.length - j) 0 (by omega) ?_ ?_
    · simp [Leq, hlt, hat.i_lt, sumW]
    · intro j hj
      by_cases hlt2 : j < L.length
      · have hw : IntKind.i64.wrap ((j : Int) + 1) = (j : Int) + 1 := wrap64 (by omega) (by omega)
        simp [hlt2, intC, hw]
        refine ⟨j + 1, by omega, by omega, ?_⟩
        simp [Leq, hlt, hat.i_lt, sumW_step hlt2, intC]
      · have hj2 : j = L.length := by omega
        subst hj2
        simp [hs]
        refine xcall_self (by simp) (cttotal_c hat) ?_
        simp [hs]
        refine xcall_self (by simp) (ctawake_c _) ?_
        simp
end Go.Proofs.Ytofkddajlgebjaa.Ax
namespace Go.Proofs.Ytofkddajlgebjaa.countTotal
open Go.ChangeShapes Go.WideShapes Go.ChangeAt Go.RowKit
open Go.ChangeMaps (open_string shut_string)
set_option linter.unusedVariables false

theorem own : ownKnob Try.prog.godebug = none := by kernel_rfl
theorem laidOut : laidOutB Try.prog = true := by kernel_rfl

set_option maxRecDepth 100000 in
theorem lifted (os : Os) (started : os.Started) (H : Type) (enc : TypeId × Value → H) :
    ReturnsInHanded {} Try.checked os 4 .any (Rows.countTotalSpec.pre6 enc Try.prog Try.f4 Rows.countTotalRow.domain false) (Rows.countTotalSpec.post enc Try.prog Try.f4 false true false false) := by
  refine returnsInHanded_of_change (C := Try.checked) own started (by kernel_rfl) Try.func4
    (ChangeSpec.witness6 (enc := enc) (C := Try.checked) false ⟨#[], #[.slice none 0 0], []⟩ 8 (by kernel_rfl) (by kernel_rfl) (by kernel_rfl) (by kernel_rfl)) ?_
  intro W base args ds gs before hval0 hW hcnd _
  have hval : ∀ (j : Nat) t v, Try.f4.params[j]? = some t → args[j]? = some v → Value.okWide Try.prog W .any base t v := hval0
  have hW' := hW
  obtain ⟨p, q, hA0, hV, rfl, hfz, hnd⟩ := hW
  have hA : DataW.TrodAll enc Try.prog W 0 (fun _ => true) true Try.f4.params.toList args.toList ds p := hA0
  rw [Try.params4] at hA hval
  obtain ⟨v0, vs0, d0, ds0, p0, q0, hargs, rfl, rfl, h0, r0⟩ := trodAll_cons hA
  obtain ⟨rfl, rfl, rfl⟩ := trodAll_nil r0
  obtain rfl : args = #[v0] := by cases args; simp_all
  obtain ⟨rfl, rfl⟩ := trodVars_none hV
  have k0 := h0
  have lt0 : ∀ x ∈ p0, x.block < W.heap.size := by obtain ⟨m, hm⟩ := k0; exact DataW.trod_lt m _ _ _ hm
  obtain ⟨a0, ok0, s0⟩ := Ax.arg_slice Try.underlying22 Ax.sh_cdCL (hval 0 22 v0 rfl rfl) h0
  clear hA0 hval0
  refine (Ax.law_walk (w := W) (Ax.dom_any W) (Ax.cttotal_l a0 ok0) (by simp) (.cons s0 .nil)).mono fun e W' ⟨he, bel⟩ => ?_
  subst he
  exact ⟨_, rfl, _, _, _, [], _, [], hW', trodAll_mk1 (shut_bool Try.underlying4 _), (trodAll_cons_mk (Below.trod laidOut (by kernel_rfl) (of_decide_eq_true (by kernel_rfl)) k0 bel lt0) trodAll_mk0), rfl, bel.frame _, fun h => by cases h⟩

theorem over : Rows.countTotalRow.holds Try.pinned (OpenSpec.ofChange Rows.countTotalSpec) :=
  OpenClaim.holds_of_wide 4 Try.f4 rfl rfl rfl rfl rfl rfl rfl ⟨rfl, rfl, rfl, rfl, rfl⟩ rfl rfl rfl rfl rfl (by kernel_rfl) Try.func4 (by kernel_rfl)
    (of_decide_eq_true (by kernel_rfl)) (by unfold Func.isWrapper; first | (rw [if_pos (by decide +kernel)]; kernel_rfl) | (rw [if_neg (by decide +kernel)]; exact ⟨rfl, rfl⟩))
    (fun os started H enc _ => lifted os started H enc)

theorem proved : Rows.CountTotalSaid := over
#print axioms proved
end Go.Proofs.Ytofkddajlgebjaa.countTotal
