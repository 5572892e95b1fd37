/- Whatever calls are made, in whatever order: no server is two clients', and no client has two; for every number of servers and every list of calls. -/
import Derived.Test.YtdfocmmajngelaaQAxX
import Derived.Test.YtdfocmmajngelaaRows
import Derived.Test.YtdfocmmajngelaaQAxBa
import Derived.Test.YtdfocmmajngelaaQAxLg
import Derived.Test.YtdfocmmajngelaaQElems
import Derived.WalkKit
import Derived.ProofKit
import Derived.OpenShut
import Derived.ShutString
import Derived.ChangeOld
import Derived.Below
/- The texts of functions over values without memory, as the kernel reckons them out of the program. -/
namespace Go.Proofs.Ytdfocmmajngelaa.Ax
open Go.RowKit Go By

def c22 : XFun := ⟨9, (.seq (.ops [⟨(some 4), (.assign (.const (.bool false))), none⟩]) (.seq (.ops [⟨(some 5), (.move (.tmp 0)), none⟩, ⟨(some 6), (.move (.tmp 1)), none⟩, ⟨(some 7), (.call 42 [(.tmp 5), (.tmp 6)]), none⟩, ⟨(some 8), (.bin .geq (.tmp 7) (.const (.int .i64 0))), none⟩, ⟨(some 4), (.assign (.tmp 8)), none⟩]) .ret)), [(.move (.tmp 4))]⟩
theorem k22 : cfun Try.prog 22 = some c22 := by kernel_rfl
def c42 : XFun := ⟨19, (.seq (.ops [⟨(some 4), (.assign (.const (.int .i64 0))), none⟩]) (.seq (.seq (.ops [⟨(some 6), (.move (.tmp 0)), none⟩, ⟨(some 7), (.lenL (.tmp 6)), none⟩, ⟨(some 8), (.move (.const (.int .i64 0))), none⟩]) (.block 0 (.loop (.seq (.ops [⟨(some 9), (.bin .lss (.tmp 8) (.tmp 7)), none⟩]) (.seq (.cond (.tmp 9) .skip (.exit 0)) (.seq (.block 1 (.seq (.ops [⟨(some 10), (.move (.tmp 8)), none⟩, ⟨(some 5), (.assign (.tmp 10)), none⟩]) (.seq (.ops [⟨(some 11), (.move (.tmp 1)), none⟩, ⟨(some 12), (.move (.tmp 0)), none⟩, ⟨(some 13), (.move (.tmp 5)), none⟩, ⟨(some 14), (.iaddr 1 (.tmp 12) (.tmp 13)), none⟩, ⟨(some 15), (.load1 (.tmp 14)), none⟩, ⟨(some 16), (.bin .eql (.tmp 11) (.tmp 15)), none⟩]) (.cond (.tmp 16) (.seq (.ops [⟨(some 17), (.move (.tmp 5)), none⟩, ⟨(some 4), (.assign (.tmp 17)), none⟩]) .ret) .skip)))) (.ops [⟨(some 18), (.bin .add (.tmp 8) (.const (.int .i64 1))), none⟩, ⟨(some 8), (.move (.tmp 18)), none⟩]))))))) (.seq (.ops [⟨(some 4), (.assign (.const (.int .i64 (-1)))), none⟩]) .ret))), [(.move (.tmp 4))]⟩
theorem k42 : cfun Try.prog 42 = some c42 := by kernel_rfl
end Go.Proofs.Ytdfocmmajngelaa.Ax
/- Has a list a number: slices.Contains, over values without memory. -/
namespace Go.Proofs.Ytdfocmmajngelaa.Ax
open Go.RowKit Go By
set_option linter.unusedSimpArgs false
set_option linter.unusedVariables false
set_option maxRecDepth 10000

/-! ### Has a list a number? -/
theorem nothas_take {L : List Int} {x : Int} {j : Nat} (hj : j < L.length) (h : x ∉ L.take j) (e : ¬ L[j] = x) : x ∉ L.take (j + 1) := by
  rw [List.take_succ_eq_append_getElem hj]
  intro hm
  rcases List.mem_append.1 hm with h1 | h1
  · exact h h1
  · exact e (List.mem_singleton.1 h1).symm
theorem jindex_c {h : List (List AV)} {L : List Int} (hl : L.length ≤ 1000000) (x : Int) : ∃ n : Int, Contract Try.prog 42 [.sl 1 (enc intC L) none .no, .v (.int .i64 x)] h (.v (.int .i64 n)) h [] ∧ (decide (0 ≤ n) = L.contains x) := by
  refine ⟨if x ∈ L then (L.idxOf x : Int) else -1, ?_, ?_⟩
  · refine contract_of k42 mixed (by simp [c42]) fun hh hargs => ?_
    simp [c42]
    refine xloop_ok (D := Nat) (fun j => ⟨[(0, .sl 1 (enc intC L) none .no), (1, .v (.int .i64 x)), (7, .v (.int .i64 (L.length : Int))), (8, .v (.int .i64 (j : Int)))], [], h, []⟩) (fun j => j ≤ L.length ∧ x ∉ L.take j) (fun j => L.length - j) 0 ⟨by omega, by simp⟩ ?_ ?_
    · simp [Leq, hh, leqH_take]
      done
    · rintro j ⟨hj, hno⟩
      by_cases hlt : j < L.length
      · have hw : IntKind.i64.wrap ((j : Int) + 1) = (j : Int) + 1 := wrap64 (by omega) (by omega)
        by_cases e : L[j] = x
        · have hm : x ∈ L := e ▸ List.getElem_mem hlt
          have hi : L.idxOf x = j := by
            have hx := List.take_append_drop j L
            rw [← hx, List.idxOf_append, if_neg hno, List.drop_eq_getElem_cons hlt, e, List.idxOf_cons_self, List.length_take]
            omega
          have e2 : x = L[j] := e.symm
          simp [hlt, intC, e, hh, hm, hi]
          done
        · have e2 : ¬ x = L[j] := fun k => e k.symm
          have e3 : (x == L[j]) = false := by simpa using e2
          simp [hlt, intC, e2, e3, hw]
          refine ⟨j + 1, ⟨by omega, nothas_take hlt hno e⟩, by omega, ?_⟩
          simp [Leq, hh, leqH_take]
          done
      · have : j = L.length := by omega
        subst this
        rw [List.take_length] at hno
        simp [hh, hno]
        done
  · by_cases hm : x ∈ L
    · rw [if_pos hm]; simp [hm]
    · rw [if_neg hm]; simp [hm]
theorem jhas_c {h : List (List AV)} {L : List Int} (hl : L.length ≤ 1000000) (x : Int) : Contract Try.prog 22 [.sl 1 (enc intC L) none .no, .v (.int .i64 x)] h (.v (.bool (L.contains x))) h [] := by
  refine contract_of k22 mixed (by simp [c22]) fun hh hargs => ?_
  obtain ⟨n, k1, k2⟩ := jindex_c (h := h) hl x
  simp [c22]
  refine xcall_self (by simp) k1 ?_
  have k3 : decide (0 ≤ n) = decide (x ∈ L) := by rw [k2]; simp
  simp [hh, k3]
  done
end Go.Proofs.Ytdfocmmajngelaa.Ax
/- Layer 33 over values without memory: no server is two clients'. -/
namespace Go.Proofs.Ytdfocmmajngelaa.Ax
open Go.RowKit Go By
set_option linter.unusedSimpArgs false
set_option linter.unusedVariables false
set_option maxRecDepth 10000

/-- Whose the first servers are. -/
def seenL : Ser → List Int
  | [] => []
  | x :: r => (if x.1 = 3 then [x.2] else []) ++ seenL r
theorem seenL_take (D : Ser) (j : Nat) (hj : j < D.length) : seenL (D.take (j + 1)) = seenL (D.take j) ++ (if D[j].1 = 3 then [D[j].2] else []) := by
  induction D generalizing j with
  | nil => simp at hj
  | cons x r ih =>
    cases j with
    | zero => simp [seenL]
    | succ j => simp only [List.take_succ_cons, seenL, ih j (by simpa using hj), List.getElem_cons_succ, List.append_assoc]
theorem seenL_len : ∀ D : Ser, (seenL D).length ≤ D.length
  | [] => Nat.le_refl _
  | x :: r => by
    have := seenL_len r
    simp only [seenL, List.length_append, List.length_cons]
    split <;> simp <;> omega
theorem seenL_mem : ∀ {D : Ser} {c : Int}, c ∈ seenL D → ∃ j : Nat, D[j]? = some (3, c)
  | [], _, h => by cases h
  | x :: r, c, h => by
    unfold seenL at h
    rcases List.mem_append.1 h with h3 | h3
    · split at h3
      · rename_i hx
        rw [List.mem_singleton.1 h3, ← hx]
        exact ⟨0, rfl⟩
      · cases h3
    · obtain ⟨j, h1⟩ := seenL_mem h3
      exact ⟨j + 1, by simpa using h1⟩
section
variable {h : List (List AV)} {i b a : Nat} {D : Ser}
theorem LeAt.uniq (hr : LeAt h i b a D) {p q : Nat} {c : Int} (hp : D[p]? = some (3, c)) (hq : D[q]? = some (3, c)) : p = q := by
  obtain ⟨clock, l, _, _, e3⟩ := hr.ex
  have g1 := (e3 c p).2 ⟨p, rfl, hp⟩
  have g2 := (e3 c q).2 ⟨q, rfl, hq⟩
  rw [g1] at g2
  injection g2 with g2
  omega
theorem LeAt.ofD (hr : LeAt h i b a D) {p : Nat} {c : Int} (hp : D[p]? = some (3, c)) : ofD D c = ((p : Int), true) := by
  unfold Ax.ofD
  cases ho : ofAt c D 0 with
  | none => exact absurd hp (ofAt_none ho p)
  | some j =>
    obtain ⟨q, hq, hD⟩ := ofAt_some ho
    rw [Nat.zero_add] at hq
    have := hr.uniq hp hD
    rw [hq, this]
theorem LeAt.unseen (hr : LeAt h i b a D) {p : Nat} {c : Int} (hp : D[p]? = some (3, c)) : c ∉ seenL (D.take p) := fun hm => by
  obtain ⟨q, hq⟩ := seenL_mem hm
  rw [List.getElem?_take] at hq
  split at hq
  · have := hr.uniq hp hq; omega
  · cases hq
end
theorem turnD_len (D : Ser) (s to : Int) (may : Int → Bool) : (turnD D s to may).2.length = D.length := by unfold turnD; split <;> (try split) <;> simp
theorem stepD_len (D : Ser) (d : Lk) : (stepD D d).2.length = D.length := by
  unfold stepD
  repeat' split
  all_goals first | exact turnD_len .. | (unfold leaseD; repeat' split) 
  all_goals simp
structure LN where
  H : List (List AV)
  D : Ser
  j : Nat
structure LN.Ok (m n : Nat) (d : LN) : Prop where
  at_ : LeAt d.H 2 0 1 d.D
  len : d.D.length = n
  lt : ltLL d.H.length d.H
  j : d.j ≤ m ∧ d.j ≤ 100
def LN.st (n : Nat) (l : List Lk) (d : LN) : St := ⟨[(5, .v (.int .i64 (n : Int))), (6, .box 2 0), (31, .sl 4 (enc lkC l) none .no), (32, .v (.int .i64 (l.length : Int))), (33, .v (.int .i64 (d.j : Int)))], [], d.H, []⟩
set_option maxHeartbeats 4000000 in
theorem lonce_c (s : Int) (hs : 0 ≤ s ∧ s < 256) (l : List Lk) (hl : l.length ≤ maxLen ∧ ∀ x ∈ l, OkLk x) : Contract Try.prog 4 [.v (.int .u8 s), .sl 4 (enc lkC l) none .no] [] (.v (.bool true)) [] [] := by
  obtain ⟨n, hn⟩ : ∃ n : Nat, (n : Int) = 1 + Int.tmod s 8 := ⟨(1 + Int.tmod s 8).toNat, by have := Int.tmod_nonneg 8 hs.1; omega⟩
  have hn8 : 1 ≤ n ∧ n ≤ 8 := by
    have h1 := Int.tmod_nonneg 8 hs.1
    have h2 := Int.tmod_lt_of_pos s (show (0 : Int) < 8 by decide)
    omega
  have hw1 : IntKind.i64.wrap (Int.tmod s 8) = Int.tmod s 8 := wrap64 (by omega) (by omega)
  have hw2 : IntKind.i64.wrap (1 + Int.tmod s 8) = (n : Int) := by rw [← hn]; exact wrap64 (by omega) (by omega)
  have kn := lnew_c [] hn8.1 hn8.2
  simp only [List.length_nil, List.nil_append, Nat.zero_add] at kn
  refine contract_of k4 mixedLe (by simp [c4]) fun hh hargs => ?_
  simp [c4, hw1, hw2]
  refine xcall_self (by simp) kn ?_
  simp
  have at0 := newLe_at [] hn8.1 hn8.2
  have lt0 := newLe_lt (h := []) hh n
  simp only [List.length_nil, List.nil_append, Nat.zero_add] at at0 lt0
  refine xloop_ok (D := LN) (LN.st n l) (LN.Ok l.length n) (fun d => l.length - d.j) ⟨newLe n 0, List.replicate n (0, 0), 0⟩ ⟨at0, by simp, lt0, Nat.zero_le _, Nat.zero_le _⟩ ?_ ?_
  · simp [Leq, LN.st, lt0, at0.i_lt]
  · rintro ⟨H, D, j⟩ hO
    obtain ⟨hat, hDn, hlt, hjl, hj100⟩ := hO
    dsimp only at hat hDn hlt hjl hj100
    unfold LN.st
    dsimp only
    by_cases hjn : j < l.length
    · obtain ⟨k, hk⟩ : ∃ k, k = l[j] := ⟨_, rfl⟩
      have hw : IntKind.i64.wrap ((j : Int) + 1) = (j : Int) + 1 := wrap64 (by omega) (by omega)
      by_cases h100 : 100 ≤ j
      · have : (100 : Int) ≤ (j : Int) := by omega
        simp [hjn, ← hk, lkC, this]
        refine xcall_self (by simp) (lawake_c _) ?_
        simp
      have h100' : ¬ (100 : Int) ≤ (j : Int) := by omega
      have hat1 := hat.app [lkC k]
      obtain ⟨H2, hc, hat2, hl2, _, hlt2⟩ := ldo_c hat1 k
      have hlt1 : ltLL (H ++ [lkC k]).length (H ++ [lkC k]) := by
        have := ltLL_mono (Nat.le_add_right H.length 1) hlt
        simp [this, lkC]
      have hlt3 := hlt2 hlt1
      have hD2 := stepD_len D k
      obtain ⟨D2, hD2e⟩ : ∃ D2, D2 = (stepD D k).2 := ⟨_, rfl⟩
      rw [← hD2e] at hat2 hD2
      obtain ⟨H1, hH1⟩ : ∃ H1, H1 = H ++ [lkC k] := ⟨_, rfl⟩
      have hbx : H1[H.length]? = some (lkC k) := by rw [hH1]; simp
      rw [← hH1] at hc hl2
      simp only [lkC] at hc hbx
      simp [hjn, ← hk, lkC, h100']
      have eH : H ++ [[AV.v (.int .i64 k.op), AV.v (.int .i64 k.server), AV.v (.int .i64 k.client), AV.v (.int .i64 k.pick)]] = H1 := hH1.symm
      rw [eH]
      refine xcall_self (by simp) hc ?_
      simp
      refine xloop_ok (D := Nat) (fun s => ⟨[(5, .v (.int .i64 (n : Int))), (6, .box 2 0), (31, .sl 4 (enc lkC l) none .no), (32, .v (.int .i64 (l.length : Int))), (33, .v (.int .i64 (j : Int))), (43, .v (.int .i64 (n : Int))), (44, .v (.int .i64 (s : Int)))], [(10, .sl 1 (enc intC (seenL (D2.take s))) none (.own (.new 10)))], H2, []⟩) (fun s => s ≤ n) (fun s => n - s) 0 (Nat.zero_le _) ?_ ?_
      · simp [Leq, seenL, hlt3, hat2.i_lt]
      · intro s hs
        by_cases hsn : s < n
        · have hws : IntKind.i64.wrap ((s : Int) + 1) = (s : Int) + 1 := wrap64 (by omega) (by omega)
          have hsD : s < D2.length := by omega
          have hst := stD_at hsD
          have hseen := seenL_take D2 s hsD
          have hsl := seenL_len (D2.take s)
          simp at hsl
          simp [hsn]
          refine xcall_self (by simp) (lhold_c hat2 s) ?_
          by_cases h3 : D2[s].1 = 3
          · have hD3 : D2[s]? = some (3, D2[s].2) := by rw [List.getElem?_eq_getElem hsD, ← h3]
            have hh1 : holD D2 (s : Int) = (D2[s].2, true) := by
              unfold holD
              rw [hst, if_pos h3]
              simp [List.getD_eq_getElem?_getD, hsD]
            have hof := hat2.ofD hD3
            have hun := hat2.unseen hD3
            simp [hh1]
            refine xcall_self (by simp) (lstate_c hat2 s) ?_
            rw [hst, h3]
            simp
            refine xcall_self (by simp) (lof_c hat2 _) ?_
            rw [hof]
            simp
            refine xcall_of (jhas_c (L := seenL (D2.take s)) (by omega) D2[s].2) (by simp) (by simp) ?_
            have hcn : (seenL (D2.take s)).contains D2[s].2 = false := by simpa using hun
            rw [hcn]
            simp [hws]
            refine ⟨by omega, by omega, s + 1, by omega, by omega, ?_⟩
            rw [hseen, if_pos h3]
            simp [Leq, hlt3, hat2.i_lt, enc, intC]
            exact ⟨ltLL_ints _ _, of_eq_true (lkC_lt _ _)⟩
          · have hh1 : holD D2 (s : Int) = (0, false) := by
              unfold holD
              rw [hst, if_neg h3]
            have h3b : (D2[s].1 == 3) = false := by simpa using h3
            simp [hh1]
            refine xcall_self (by simp) (lstate_c hat2 s) ?_
            rw [hst]
            simp [h3b, hws]
            refine ⟨s + 1, by omega, by omega, ?_⟩
            rw [hseen, if_neg h3, List.append_nil]
            simp [Leq, hlt3, hat2.i_lt]
        · have hsn2 : s = n := by omega
          rw [hsn2]
          simp [hw]
          refine ⟨⟨H2, D2, j + 1⟩, ⟨hat2, by show D2.length = n; omega, hlt3, by show j + 1 ≤ l.length; omega, by show j + 1 ≤ 100; omega⟩, by show l.length - (j + 1) < l.length - j; omega, ?_⟩
          simp [Leq, hlt3, hat2.i_lt]
    · have hjl2 : j = l.length := by omega
      subst hjl2
      simp
      refine xcall_self (by simp) (lawake_c _) ?_
      simp
theorem lonce_l (s : Int) (l : List Lk) (h0 : (Lit.int .u8 s).wf = true) (hl : l.length ≤ maxLen ∧ ∀ x ∈ l, OkLk x) : Contract Try.prog 4 [.v (.int .u8 s), .sl 4 (enc lkC l) none .no] [] (.v (.bool true)) [] [] := lonce_c s (u8_bounds h0) l hl
end Go.Proofs.Ytdfocmmajngelaa.Ax
namespace Go.Proofs.Ytdfocmmajngelaa.leaseOnce
open Go.ChangeShapes Go.WideShapes Go.ChangeAt Go.RowKit
open Go.ChangeMaps (open_string shut_string)
set_option linter.unusedVariables false

theorem own : ownKnob Try.prog.godebug = none := by kernel_rfl
theorem laidOut : laidOutB Try.prog = true := by kernel_rfl

set_option maxRecDepth 100000 in
theorem lifted (os : Os) (started : os.Started) (H : Type) (enc : TypeId × Value → H) :
    ReturnsInHanded {} Try.checked os 4 .any (Rows.leaseOnceSpec.pre6 enc Try.prog Try.f4 Rows.leaseOnceRow.domain false) (Rows.leaseOnceSpec.post enc Try.prog Try.f4 false true false false) := by
  refine returnsInHanded_of_change (C := Try.checked) own started (by kernel_rfl) Try.func4
    (ChangeSpec.witness6 (enc := enc) (C := Try.checked) false ⟨#[], #[.int .u8 0, .slice none 0 0], []⟩ 8 (by kernel_rfl) (by kernel_rfl) (by kernel_rfl) (by kernel_rfl)) ?_
  intro W base args ds gs before hval0 hW hcnd _
  have hval : ∀ (j : Nat) t v, Try.f4.params[j]? = some t → args[j]? = some v → Value.okWide Try.prog W .any base t v := hval0
  have hW' := hW
  obtain ⟨p, q, hA0, hV, rfl, hfz, hnd⟩ := hW
  have hA : DataW.TrodAll enc Try.prog W 0 (fun _ => true) true Try.f4.params.toList args.toList ds p := hA0
  rw [Try.params4] at hA hval
  obtain ⟨v0, vs0, d0, ds0, p0, q0, hargs, rfl, rfl, h0, r0⟩ := trodAll_cons hA
  obtain ⟨v1, vs1, d1, ds1, p1, q1, rfl, rfl, rfl, h1, r1⟩ := trodAll_cons r0
  obtain ⟨rfl, rfl, rfl⟩ := trodAll_nil r1
  obtain rfl : args = #[v0, v1] := by cases args; simp_all
  obtain ⟨rfl, rfl⟩ := trodVars_none hV
  have k0 := h0
  have lt0 : ∀ x ∈ p0, x.block < W.heap.size := by obtain ⟨m, hm⟩ := k0; exact DataW.trod_lt m _ _ _ hm
  obtain ⟨a0, ok0, s0⟩ := Ax.arg_int Try.underlying5 (hval 0 5 v0 rfl rfl) h0
  have k1 := h1
  have lt1 : ∀ x ∈ p1, x.block < W.heap.size := by obtain ⟨m, hm⟩ := k1; exact DataW.trod_lt m _ _ _ hm
  obtain ⟨a1, ok1, s1⟩ := Ax.arg_slice Try.underlying22 Ax.sh_lkCL (hval 1 22 v1 rfl rfl) h1
  clear hA0 hval0
  refine (Ax.law_walk (w := W) (Ax.dom_any W) (Ax.lonce_l a0 a1 ok0 ok1) (by simp) (.cons s0 (.cons s1 .nil))).mono fun e W' ⟨he, bel⟩ => ?_
  subst he
  exact ⟨_, rfl, _, _, _, [], _, [], hW', trodAll_mk1 (shut_bool Try.underlying4 _), (trodAll_cons_mk (Below.trod laidOut (by kernel_rfl) (of_decide_eq_true (by kernel_rfl)) k0 bel lt0) (trodAll_cons_mk (Below.trod laidOut (by kernel_rfl) (of_decide_eq_true (by kernel_rfl)) k1 bel lt1) trodAll_mk0)), rfl, bel.frame _, fun h => by cases h⟩

theorem over : Rows.leaseOnceRow.holds Try.pinned (OpenSpec.ofChange Rows.leaseOnceSpec) :=
  OpenClaim.holds_of_wide 4 Try.f4 rfl rfl rfl rfl rfl rfl rfl ⟨rfl, rfl, rfl, rfl, rfl⟩ rfl rfl rfl rfl rfl (by kernel_rfl) Try.func4 (by kernel_rfl)
    (of_decide_eq_true (by kernel_rfl)) (by unfold Func.isWrapper; first | (rw [if_pos (by decide +kernel)]; kernel_rfl) | (rw [if_neg (by decide +kernel)]; exact ⟨rfl, rfl⟩))
    (fun os started H enc _ => lifted os started H enc)

theorem proved : Rows.LeaseOnceSaid := over
#print axioms proved
end Go.Proofs.Ytdfocmmajngelaa.leaseOnce
