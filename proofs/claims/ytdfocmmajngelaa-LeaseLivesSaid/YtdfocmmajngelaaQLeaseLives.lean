/- Leases answer as the document's do, call by call; for every number of servers and every list of calls. -/
import Derived.Test.YtdfocmmajngelaaQAxX
import Derived.Test.YtdfocmmajngelaaRows
import Derived.Test.YtdfocmmajngelaaQAxBa
import Derived.Test.YtdfocmmajngelaaQAxLg
import Derived.Test.YtdfocmmajngelaaQAxLi
import Derived.Test.YtdfocmmajngelaaQElems
import Derived.WalkKit
import Derived.ProofKit
import Derived.OpenShut
import Derived.ShutString
import Derived.ChangeOld
import Derived.Below
/- The texts of functions over values without memory, as the kernel reckons them out of the program. -/
namespace Go.Proofs.Ytdfocmmajngelaa.Ax
open Go.RowKit Go By

end Go.Proofs.Ytdfocmmajngelaa.Ax
/- Has a list a number: slices.Contains, over values without memory. -/
namespace Go.Proofs.Ytdfocmmajngelaa.Ax
open Go.RowKit Go By
set_option linter.unusedSimpArgs false
set_option linter.unusedVariables false
set_option maxRecDepth 10000

/-! ### Has a list a number? -/
end Go.Proofs.Ytdfocmmajngelaa.Ax
/- Layer 33 over values without memory: no server is two clients'. -/
namespace Go.Proofs.Ytdfocmmajngelaa.Ax
open Go.RowKit Go By
set_option linter.unusedSimpArgs false
set_option linter.unusedVariables false
set_option maxRecDepth 10000

section
variable {h : List (List AV)} {i b a : Nat} {D : Ser}
end
theorem turnD_len (D : Ser) (s to : Int) (may : Int → Bool) : (turnD D s to may).2.length = D.length := by unfold turnD; split <;> (try split) <;> simp
theorem stepD_len (D : Ser) (d : Lk) : (stepD D d).2.length = D.length := by
  unfold stepD
  repeat' split
  all_goals first | exact turnD_len .. | (unfold leaseD; repeat' split) 
  all_goals simp
end Go.Proofs.Ytdfocmmajngelaa.Ax
/- Layer 33 over values without memory: leases do any calls in any order as the document says. -/
namespace Go.Proofs.Ytdfocmmajngelaa.Ax
open Go.RowKit Go By
set_option linter.unusedSimpArgs false
set_option linter.unusedVariables false
set_option maxRecDepth 10000

structure LV where
  H : List (List AV)
  D : Ser
  j : Nat
structure LV.Ok (m : Nat) (d : LV) : Prop where
  at_ : LeAt d.H 2 0 1 d.D
  x : RlAt2 d.H 4 3 d.D
  lt : ltLL d.H.length d.H
  j : d.j ≤ m ∧ d.j ≤ 100
def LV.st (l : List Lk) (d : LV) : St := ⟨[(5, .box 2 0), (7, .box 4 0), (39, .sl 4 (enc lkC l) none .no), (40, .v (.int .i64 (l.length : Int))), (41, .v (.int .i64 (d.j : Int)))], [], d.H, []⟩
set_option maxHeartbeats 4000000 in
theorem llives_c (s : Int) (l : List Lk) (hl : l.length ≤ maxLen ∧ ∀ x ∈ l, OkLk x) : Contract Try.prog 3 [.v (.int .i64 s), .sl 4 (enc lkC l) none .no] [] (.v (.bool true)) [] [] := by
  refine contract_of k3 mixedLe (by simp [c3]) fun hh hargs => ?_
  by_cases hs : s < 1 ∨ 8 < s
  · simp [c3]
    refine xcall_self (by simp) (lnew_no [] hs) ?_
    simp
    refine xcall_self (by simp) (rlnew_no [] hs) ?_
    simp
    refine xloop_ok (D := Nat) (fun _ => ⟨[(7, .v (.pointer none)), (39, .sl 4 (enc lkC l) none .no), (40, .v (.int .i64 (l.length : Int))), (41, .v (.int .i64 (0 : Nat)))], [], [], []⟩) (fun _ => True) (fun _ => 0) 0 trivial ?_ ?_
    · simp [Leq]
    · intro _ _
      by_cases h0 : 0 < l.length
      · obtain ⟨k, hk⟩ : ∃ k, k = l[0] := ⟨_, rfl⟩
        simp [h0, ← hk, lkC]
        refine xcall_self (by simp) (lawake_c _) ?_
        simp
      · simp [h0]
        refine xcall_self (by simp) (lawake_c _) ?_
        simp
  · obtain ⟨n, rfl⟩ : ∃ n : Nat, s = (n : Int) := ⟨s.toNat, by omega⟩
    have hn8 : 1 ≤ n ∧ n ≤ 8 := by omega
    have kn := lnew_c [] hn8.1 hn8.2
    have at0 := newLe_at [] hn8.1 hn8.2
    have lt0 := newLe_lt (h := []) hh n
    simp only [List.length_nil, List.nil_append, Nat.zero_add] at kn at0 lt0
    have kx := rlnew_c (newLe n 0) hn8.1 hn8.2
    have hl3 : (newLe n 0).length = 3 := rfl
    rw [hl3] at kx
    obtain ⟨H0, hH0⟩ : ∃ H0, H0 = newLe n 0 ++ [(enc oneC (List.replicate n ((0, 0) : Int × Int))).flatten, [.bsl 3 0 2 n]] := ⟨_, rfl⟩
    rw [← hH0] at kx
    have x0 : RlAt2 H0 4 3 (List.replicate n (0, 0)) := by
      refine ⟨?_, ?_, by decide, by simp; omega⟩
      · rw [hH0, List.length_replicate]; rfl
      · rw [hH0]; rfl
    have at1 : LeAt H0 2 0 1 (List.replicate n (0, 0)) := by rw [hH0]; exact at0.app _
    have lt1 : ltLL H0.length H0 := by
      rw [hH0]
      have := ltLL_mono (Nat.le_add_right _ 2) lt0
      rw [hl3] at this
      have g5 : ∀ m, ltL m (enc oneC (List.replicate n ((0, 0) : Int × Int))).flatten := fun m => oneE.flat_lt m _
      simp [hl3, this, g5]
    simp [c3]
    refine xcall_self (by simp) kn ?_
    simp
    refine xcall_self (by simp) kx ?_
    simp
    refine xloop_ok (D := LV) (LV.st l) (LV.Ok l.length) (fun d => l.length - d.j) ⟨H0, List.replicate n (0, 0), 0⟩ ⟨at1, x0, lt1, Nat.zero_le _, Nat.zero_le _⟩ ?_ ?_
    · simp [Leq, LV.st, lt1, at1.i_lt, x0.i_lt]
    · rintro ⟨H, D, j⟩ hO
      obtain ⟨hat, hx, hlt, hjl, hj100⟩ := hO
      dsimp only at hat hx hlt hjl hj100
      unfold LV.st
      dsimp only
      by_cases hjn : j < l.length
      · obtain ⟨k, hk⟩ : ∃ k, k = l[j] := ⟨_, rfl⟩
        have hw : IntKind.i64.wrap ((j : Int) + 1) = (j : Int) + 1 := wrap64 (by omega) (by omega)
        by_cases h100 : 100 ≤ j
        · have : (100 : Int) ≤ (j : Int) := by omega
          simp [hjn, ← hk, lkC, this]
          refine xcall_self (by simp) (lawake_c _) ?_
          simp
        have h100' : ¬ (100 : Int) ≤ (j : Int) := by omega
        have h5 : 4 < H.length := hx.i_lt
        have hat1 := hat.app [lkC k]
        have hx1 := hx.app [lkC k]
        obtain ⟨H2, hc, hat2, hl2, hq2, hlt2⟩ := ldo_c hat1 k
        have hlt1 : ltLL (H ++ [lkC k]).length (H ++ [lkC k]) := by
          have := ltLL_mono (Nat.le_add_right H.length 1) hlt
          simp [this, lkC]
        have hlt3 := hlt2 hlt1
        have hx2 : RlAt2 H2 4 3 D := hx1.move (hq2 4 (by decide) (by decide)) (hq2 3 (by decide) (by decide))
        have hcx := rldo_c hx2 k
        have hD2 := stepD_len D k
        obtain ⟨D2, hD2e⟩ : ∃ D2, D2 = (stepD D k).2 := ⟨_, rfl⟩
        rw [← hD2e] at hat2 hD2 hcx
        obtain ⟨H3, hH3⟩ : ∃ H3, H3 = rlH H2 3 D2 := ⟨_, rfl⟩
        have hx3 : RlAt2 H3 4 3 D2 := by rw [hH3]; exact hx2.turn hD2
        have hq3 : ∀ q, q ≠ 3 → H3[q]? = H2[q]? := fun q hq => by rw [hH3]; exact List.getElem?_set_ne (Ne.symm hq)
        have hat3 : LeAt H3 2 0 1 D2 := hat2.move (hq3 2 (by decide)) (hq3 0 (by decide)) (hq3 1 (by decide))
        have hl3 : H3.length = H2.length := by rw [hH3, rlH_len]
        have hlt4 : ltLL H3.length H3 := by rw [hl3, hH3]; exact rlH_lt hlt3 3 D2
        rw [← hH3] at hcx
        have hb2 : H2[H.length]? = some (lkC k) := by rw [hq2 _ (by omega) (by omega)]; simp
        have hb3 : H3[H.length]? = some (lkC k) := by rw [hq3 _ (by omega)]; exact hb2
        have hl2' : H2.length = H.length + 1 := by rw [hl2]; simp
        obtain ⟨H1, hH1⟩ : ∃ H1, H1 = H ++ [lkC k] := ⟨_, rfl⟩
        rw [← hH1] at hc hl2
        have heq := equal1_any (P := Try.prog) mixedLe (f := 14) k14 (idleD D2) (idleD D2) H3 (by have := idleAt_len D2 0; have := hat2.len; unfold idleD; omega)
        rw [eqL_beq, beq_self_eq_true] at heq
        generalize hee : (stepD D k).1 = e at *
        simp only [lkC] at hc hcx hb2 hb3
        simp [hjn, ← hk, lkC, h100']
        have eH : H ++ [[AV.v (.int .i64 k.op), AV.v (.int .i64 k.server), AV.v (.int .i64 k.client), AV.v (.int .i64 k.pick)]] = H1 := hH1.symm
        rw [eH]
        refine xcall_self (by simp) hc ?_
        have hne : ¬ H = [] := by intro e; rw [e] at h5; cases h5
        have hne1 : ¬ H.length = 1 := by omega
        have hne3 : ¬ H.length = 3 := by omega
        have hcal := lstate_c hat3 k.server
        have hcbl := rlstate_c hx3 k.server
        have hccl := lidle_c hat3
        have hcdl := rlidle_c hx3
        have hcel := lhold_c hat3 k.server
        have hcfl := rlhold_c hx3 k.server
        have hcgl := lof_c hat3 k.client
        have hchl := rlof_c hx3 k.client
        simp [hne, hne1]
        refine xcall_self (by simp) hcx ?_
        simp [hne3, hb3]
        refine xcall_self (by simp) hcal ?_
        simp
        refine xcall_self (by simp) hcbl ?_
        simp
        refine xcall_self (by simp) hccl ?_
        simp
        refine xcall_self (by simp) hcdl ?_
        simp
        refine xcall_self (by simp) heq ?_
        simp [hb3]
        refine xcall_self (by simp) hcel ?_
        simp [hb3]
        refine xcall_self (by simp) hcfl ?_
        simp [hb3]
        refine xcall_self (by simp) hcgl ?_
        simp [hb3]
        refine xcall_self (by simp) hchl ?_
        simp [hw]
        refine ⟨⟨H3, D2, j + 1⟩, ⟨hat3, hx3, hlt4, by show j + 1 ≤ l.length; omega, by show j + 1 ≤ 100; omega⟩, by show l.length - (j + 1) < l.length - j; omega, ?_⟩
        simp [Leq, hlt4, hat3.i_lt, hx3.i_lt]
      · have hjl2 : j = l.length := by omega
        subst hjl2
        simp
        refine xcall_self (by simp) (lawake_c _) ?_
        simp
end Go.Proofs.Ytdfocmmajngelaa.Ax
namespace Go.Proofs.Ytdfocmmajngelaa.leaseLives
open Go.ChangeShapes Go.WideShapes Go.ChangeAt Go.RowKit
open Go.ChangeMaps (open_string shut_string)
set_option linter.unusedVariables false

theorem own : ownKnob Try.prog.godebug = none := by kernel_rfl
theorem laidOut : laidOutB Try.prog = true := by kernel_rfl

set_option maxRecDepth 100000 in
theorem lifted (os : Os) (started : os.Started) (H : Type) (enc : TypeId × Value → H) :
    ReturnsInHanded {} Try.checked os 3 .any (Rows.leaseLivesSpec.pre6 enc Try.prog Try.f3 Rows.leaseLivesRow.domain false) (Rows.leaseLivesSpec.post enc Try.prog Try.f3 false true false false) := by
  refine returnsInHanded_of_change (C := Try.checked) own started (by kernel_rfl) Try.func3
    (ChangeSpec.witness6 (enc := enc) (C := Try.checked) false ⟨#[], #[.int .i64 0, .slice none 0 0], []⟩ 8 (by kernel_rfl) (by kernel_rfl) (by kernel_rfl) (by kernel_rfl)) ?_
  intro W base args ds gs before hval0 hW hcnd _
  have hval : ∀ (j : Nat) t v, Try.f3.params[j]? = some t → args[j]? = some v → Value.okWide Try.prog W .any base t v := hval0
  have hW' := hW
  obtain ⟨p, q, hA0, hV, rfl, hfz, hnd⟩ := hW
  have hA : DataW.TrodAll enc Try.prog W 0 (fun _ => true) true Try.f3.params.toList args.toList ds p := hA0
  rw [Try.params3] at hA hval
  obtain ⟨v0, vs0, d0, ds0, p0, q0, hargs, rfl, rfl, h0, r0⟩ := trodAll_cons hA
  obtain ⟨v1, vs1, d1, ds1, p1, q1, rfl, rfl, rfl, h1, r1⟩ := trodAll_cons r0
  obtain ⟨rfl, rfl, rfl⟩ := trodAll_nil r1
  obtain rfl : args = #[v0, v1] := by cases args; simp_all
  obtain ⟨rfl, rfl⟩ := trodVars_none hV
  have k0 := h0
  have lt0 : ∀ x ∈ p0, x.block < W.heap.size := by obtain ⟨m, hm⟩ := k0; exact DataW.trod_lt m _ _ _ hm
  obtain ⟨a0, ok0, s0⟩ := Ax.arg_int Try.underlying3 (hval 0 3 v0 rfl rfl) h0
  have k1 := h1
  have lt1 : ∀ x ∈ p1, x.block < W.heap.size := by obtain ⟨m, hm⟩ := k1; exact DataW.trod_lt m _ _ _ hm
  obtain ⟨a1, ok1, s1⟩ := Ax.arg_slice Try.underlying22 Ax.sh_lkCL (hval 1 22 v1 rfl rfl) h1
  clear hA0 hval0
  refine (Ax.law_walk (w := W) (Ax.dom_any W) (Ax.llives_c a0 a1 ok1) (by simp) (.cons s0 (.cons s1 .nil))).mono fun e W' ⟨he, bel⟩ => ?_
  subst he
  exact ⟨_, rfl, _, _, _, [], _, [], hW', trodAll_mk1 (shut_bool Try.underlying4 _), (trodAll_cons_mk (Below.trod laidOut (by kernel_rfl) (of_decide_eq_true (by kernel_rfl)) k0 bel lt0) (trodAll_cons_mk (Below.trod laidOut (by kernel_rfl) (of_decide_eq_true (by kernel_rfl)) k1 bel lt1) trodAll_mk0)), rfl, bel.frame _, fun h => by cases h⟩

theorem over : Rows.leaseLivesRow.holds Try.pinned (OpenSpec.ofChange Rows.leaseLivesSpec) :=
  OpenClaim.holds_of_wide 3 Try.f3 rfl rfl rfl rfl rfl rfl rfl ⟨rfl, rfl, rfl, rfl, rfl⟩ rfl rfl rfl rfl rfl (by kernel_rfl) Try.func3 (by kernel_rfl)
    (of_decide_eq_true (by kernel_rfl)) (by unfold Func.isWrapper; first | (rw [if_pos (by decide +kernel)]; kernel_rfl) | (rw [if_neg (by decide +kernel)]; exact ⟨rfl, rfl⟩))
    (fun os started H enc _ => lifted os started H enc)

theorem proved : Rows.LeaseLivesSaid := over
#print axioms proved
end Go.Proofs.Ytdfocmmajngelaa.leaseLives
