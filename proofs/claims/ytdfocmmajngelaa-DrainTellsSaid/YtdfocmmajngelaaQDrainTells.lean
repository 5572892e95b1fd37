/- What is done with a server, and what it is told, is what the document says; for every status, number of replies, state and plan. -/
import Derived.Test.YtdfocmmajngelaaQAxX
import Derived.Test.YtdfocmmajngelaaRows
import Derived.Test.YtdfocmmajngelaaQAxSk
import Derived.Test.YtdfocmmajngelaaQAxFq
import Derived.Test.YtdfocmmajngelaaQCodeDr
import Derived.Test.YtdfocmmajngelaaQElems
import Derived.WalkKit
import Derived.ProofKit
import Derived.OpenShut
import Derived.ShutString
import Derived.ChangeOld
import Derived.Below
/- The texts of functions over values without memory, as the kernel reckons them out of the program. -/
namespace Go.Proofs.Ytdfocmmajngelaa.Ax
open Go.RowKit Go By

def c44 : XFun := ⟨21, (.seq (.ops [⟨(some 1), (.box (.tmp 0)), none⟩, ⟨(some 2), (.assign (.const (.slice none 0 0))), none⟩]) (.seq (.ops [⟨(some 3), (.assign (.const (.slice none 0 0))), none⟩]) (.seq (.seq (.ops [⟨(some 4), (.faddr 0 (.tmp 1)), none⟩, ⟨(some 5), (.load1 (.tmp 4)), none⟩, ⟨(some 6), (.bin .neq (.tmp 5) (.const (.int .u8 0))), none⟩]) (.cond (.tmp 6) (.ops [⟨(some 7), (.move (.tmp 3)), none⟩, ⟨(some 8), (.faddr 0 (.tmp 1)), none⟩, ⟨(some 9), (.load1 (.tmp 8)), none⟩, ⟨(some 10), (.buildSlice 1 1 [(.v (.int .u8 0))] [(0, (.tmp 9))]), none⟩, ⟨(some 11), (.append 1 1 (.tmp 7) (.tmp 10)), none⟩, ⟨(some 3), (.assign (.tmp 11)), none⟩]) .skip)) (.seq (.draws (.take ⟨(some 12), (.move (.tmp 3)), none⟩ (.take ⟨(some 13), (.faddr 1 (.tmp 1)), none⟩ (.take ⟨(some 14), (.load1 (.tmp 13)), none⟩ (.take ⟨(some 15), (.lenL (.tmp 14)), none⟩ (.take ⟨(some 16), (.bin .add (.tmp 15) (.const (.int .i64 4))), none⟩ (.take ⟨(some 18), (.faddr 1 (.tmp 1)), none⟩ (.take ⟨(some 19), (.load1 (.tmp 18)), none⟩ (.only ⟨(some 17), (.call 55 [(.tmp 12), (.tmp 16), (.const (.int .i64 4))]), none⟩ (.only ⟨(some 20), (.append 1 1 (.tmp 17) (.tmp 19)), none⟩ (.take ⟨(some 2), (.assign (.tmp 20)), none⟩ .done))))))))))) .ret)))), [(.move (.tmp 2))]⟩
theorem k44 : cfun Try.prog 44 = some c44 := by kernel_rfl
end Go.Proofs.Ytdfocmmajngelaa.Ax
/- Layer 34: what is done with a server whose client is gone, over values without memory. -/
namespace Go.Proofs.Ytdfocmmajngelaa.Ax
open Go.RowKit Go By Ytdfocmmajngelaa.Nm Sc Dg
open He (textL)
set_option linter.unusedSimpArgs false
set_option linter.unusedVariables false
set_option maxRecDepth 10000

def planI (k l : Int) (s : Sk) : Int := if s.wait = true then 1 else if s.on = true ∨ s.dirty = true then 2 else if 0 < l then 1 else if k = 73 then 0 else 3
def syncL : List UInt8 := [83, 0, 0, 0, 4]
def rollL : List UInt8 := [81, 0, 0, 0, 13, 114, 111, 108, 108, 98, 97, 99, 107, 0]
def planB (p : Int) : List UInt8 := if p = 2 then syncL else if p = 3 then rollL else []
section
variable {h : List (List AV)}
theorem dplan_c (k l : Int) (s : Sk) : Contract Try.prog 23 [.v (.int .u8 k), .v (.int .i64 l), .agg (skC s)] h (.v (.int .i64 (planI k l s))) h [] := by
  obtain ⟨a, b, d⟩ := s
  refine contract_of k23 mixedSk (by simp [c23]) fun hh hargs => ?_
  unfold planI skC
  by_cases h1 : 0 < l <;> by_cases h2 : k = 73 <;> cases a <;> cases b <;> cases d <;> simp [c23, hh, h1, h2]
theorem rdplan_c (k l : Int) (s : Sk) : Contract Try.prog 24 [.v (.int .u8 k), .v (.int .i64 l), .agg (skC s)] h (.v (.int .i64 (planI k l s))) h [] := by
  obtain ⟨a, b, d⟩ := s
  refine contract_of k24 mixedSk (by simp [c24]) fun hh hargs => ?_
  unfold planI skC
  by_cases h1 : 0 < l <;> by_cases h2 : k = 73 <;> cases a <;> cases b <;> cases d <;> simp [c24, hh, h1, h2]
theorem dbytes_c (p : Int) : Contract Try.prog 26 [.v (.int .i64 p)] h (.sl 1 (bytesE (planB p)) none .no) h [] := by
  refine contract_of k26 mixedSk (by simp [c26]) fun hh hargs => ?_
  unfold planB
  by_cases h2 : p = 2
  · simp [c26, hh, h2, syncL]
  · by_cases h3 : p = 3
    · simp [c26, hh, h2, h3, rollL]
    · simp [c26, hh, h2, h3]
/-! ### The document's -/
theorem msb4_c (m : Ms) (ht : 0 < m.type ∧ m.type < 256) (hl : m.body.length ≤ 10000000) {E : List UInt8} (hE : E = [UInt8.ofNat m.type.toNat] ++ (numE 4 ((m.body.length : Int) + 4) ++ m.body)) : Contract Try.prog 44 [.agg (msC m)] h (.sl 1 (bytesE E) none (.own .res)) h [] := by
  have hw : IntKind.i64.wrap ((m.body.length : Int) + 4) = (m.body.length : Int) + 4 := wrap64 (by omega) (by omega)
  have hk : max m.type 0 % 256 = m.type := by omega
  have h0 : ¬ m.type = 0 := by omega
  have hpa : ∀ (xs : List UInt8) (n size : Int), putL xs n size = xs ++ numE size n := fun xs n size => putL_eq xs n size
  refine contract_of k44 mixed (by simp [c44]) fun hh hargs => ?_
  generalize hn' : (m.body.length : Int) + 4 = n at *
  have hE2 : bytesE E = bytesE ([UInt8.ofNat m.type.toNat] ++ numE 4 n) ++ bytesE m.body := by rw [hE, ← List.append_assoc]; exact bytesE_append _ _
  rw [hE2]
  generalize hE3 : bytesE ([UInt8.ofNat m.type.toNat] ++ numE 4 n) = E3 at *
  have hEl : E3.length = 1 + (numE 4 n).length := by rw [← hE3, bytesE_length, List.length_append, List.length_singleton]
  have hnl : (numE 4 n).length ≤ 4 := by
    have := put_len n 4 (by omega) []
    simpa [numE] using this
  simp [c44, h0, hn', hw]
  refine xappendA_own ?_
  simp [hn', hw]
  refine xcall_of (rput_c [UInt8.ofNat m.type.toNat] n 4 (by simp) _) (by simp [hk]) (by simp) ?_
  rw [hpa [UInt8.ofNat m.type.toNat], hE3]
  simp [hh, -List.append_assoc]
  exact ⟨by omega, by rw [← hE3]; exact ltLL_bytes _ _⟩
def frS : Fm := ⟨83, 0, [], [], [], [], [], [], [], 0⟩
def frR : Fm := ⟨81, 0, [], [], [114, 111, 108, 108, 98, 97, 99, 107], [], [], [], [], 0⟩
theorem fit_frS : FmFit frS := by simp [FmFit, frS]
theorem fit_frR : FmFit frR := by simp [FmFit, frR]
theorem enc_frS : rencF frS = (⟨83, []⟩, 0) := by decide +kernel
theorem enc_frR : rencF frR = (⟨81, [114, 111, 108, 108, 98, 97, 99, 107, 0]⟩, 0) := by decide +kernel
theorem rdbytes_c (p : Int) : Contract Try.prog 27 [.v (.int .i64 p)] h (.sl 1 (bytesE (planB p)) none .no) h [] := by
  refine contract_of k27 mixedSk (by simp [c27]) fun hh hargs => ?_
  unfold planB
  by_cases h2 : p = 2
  · have ct1 := fun H => rencode_c frS fit_frS (by decide) H (by decide +kernel)
    simp only [enc_frS] at ct1
    simp [c27, h2]
    refine xcall_of (ct1 _) (by simp [fmC, frS]) (by simp) ?_
    simp
    refine xcall_self (by simp) (msb4_c ⟨83, []⟩ (by decide) (by decide) (E := syncL) (by decide +kernel)) ?_
    simp [hh]
  · by_cases h3 : p = 3
    · have ct1 := fun H => rencode_c frR fit_frR (by decide) H (by decide +kernel)
      simp only [enc_frR] at ct1
      simp [c27, h2, h3]
      refine xcall_of (ct1 _) (by simp [fmC, frR]) (by simp) ?_
      simp
      refine xcall_self (by simp) (msb4_c ⟨81, [114, 111, 108, 108, 98, 97, 99, 107, 0]⟩ (by decide) (by decide) (E := rollL) (by decide +kernel)) ?_
      simp [hh]
    · simp [c27, hh, h2, h3]
theorem dawake_c : Contract Try.prog 28 [] h (.v (.bool true)) h [] := by
  refine contract_of k28 mixedSk (by simp [c28]) fun hh hargs => ?_
  have ct1 := dplan_c (h := h) 84 0 ⟨false, false, false⟩
  have ct2 := dplan_c (h := h) 73 0 ⟨false, false, false⟩
  have ct3 := dbytes_c (h := h) 2
  simp [planI, planB, syncL, skC] at ct1 ct2 ct3
  simp [c28]
  refine xcall_self (by simp) ct1 ?_
  simp
  refine xcall_self (by simp) ct2 ?_
  simp
  refine xcall_self (by simp) ct3 ?_
  simp [hh]
theorem dtells_c (k l : Int) (s : Sk) (p : Int) : Contract Try.prog 6 [.v (.int .u8 k), .v (.int .i64 l), .agg (skC s), .v (.int .i64 p)] [] (.v (.bool true)) [] [] := by
  obtain ⟨a, b, d⟩ := s
  have ct1 := dplan_c (h := [skC ⟨a, b, d⟩]) k l ⟨a, b, d⟩
  have ct2 := rdplan_c (h := [skC ⟨a, b, d⟩]) k l ⟨a, b, d⟩
  have ct3 := dbytes_c (h := [skC ⟨a, b, d⟩]) p
  have ct4 := rdbytes_c (h := [skC ⟨a, b, d⟩]) p
  have ct5 := equal_c (planB p) (planB p) [skC ⟨a, b, d⟩]
  have ct6 := dawake_c (h := [skC ⟨a, b, d⟩])
  rw [beq_self_eq_true] at ct5
  simp only [skC] at ct1 ct2 ct3 ct4 ct5 ct6
  refine contract_of k6 mixedSk (by simp [c6]) fun hh hargs => ?_
  simp [c6, skC]
  refine xcall_self (by simp) ct1 ?_
  simp
  refine xcall_self (by simp) ct2 ?_
  simp
  refine xcall_self (by simp) ct3 ?_
  simp
  refine xcall_self (by simp) ct4 ?_
  simp
  refine xcall_self (by simp) ct5 ?_
  simp
  refine xcall_self (by simp) ct6 ?_
  simp
end
end Go.Proofs.Ytdfocmmajngelaa.Ax
namespace Go.Proofs.Ytdfocmmajngelaa.drainTells
open Go.ChangeShapes Go.WideShapes Go.ChangeAt Go.RowKit
open Go.ChangeMaps (open_string shut_string)
set_option linter.unusedVariables false

theorem own : ownKnob Try.prog.godebug = none := by kernel_rfl
theorem laidOut : laidOutB Try.prog = true := by kernel_rfl

set_option maxRecDepth 100000 in
theorem lifted (os : Os) (started : os.Started) (H : Type) (enc : TypeId × Value → H) :
    ReturnsInHanded {} Try.checked os 6 .any (Rows.drainTellsSpec.pre6 enc Try.prog Try.f6 Rows.drainTellsRow.domain false) (Rows.drainTellsSpec.post enc Try.prog Try.f6 false true false false) := by
  refine returnsInHanded_of_change (C := Try.checked) own started (by kernel_rfl) Try.func6
    (ChangeSpec.witness6 (enc := enc) (C := Try.checked) false ⟨#[], #[.int .u8 0, .int .i64 0, .agg #[.bool false, .bool false, .bool false], .int .i64 0], []⟩ 8 (by kernel_rfl) (by kernel_rfl) (by kernel_rfl) (by kernel_rfl)) ?_
  intro W base args ds gs before hval0 hW hcnd _
  have hval : ∀ (j : Nat) t v, Try.f6.params[j]? = some t → args[j]? = some v → Value.okWide Try.prog W .any base t v := hval0
  have hW' := hW
  obtain ⟨p, q, hA0, hV, rfl, hfz, hnd⟩ := hW
  have hA : DataW.TrodAll enc Try.prog W 0 (fun _ => true) true Try.f6.params.toList args.toList ds p := hA0
  rw [Try.params6] at hA hval
  obtain ⟨v0, vs0, d0, ds0, p0, q0, hargs, rfl, rfl, h0, r0⟩ := trodAll_cons hA
  obtain ⟨v1, vs1, d1, ds1, p1, q1, rfl, rfl, rfl, h1, r1⟩ := trodAll_cons r0
  obtain ⟨v2, vs2, d2, ds2, p2, q2, rfl, rfl, rfl, h2, r2⟩ := trodAll_cons r1
  obtain ⟨v3, vs3, d3, ds3, p3, q3, rfl, rfl, rfl, h3, r3⟩ := trodAll_cons r2
  obtain ⟨rfl, rfl, rfl⟩ := trodAll_nil r3
  obtain rfl : args = #[v0, v1, v2, v3] := by cases args; simp_all
  obtain ⟨rfl, rfl⟩ := trodVars_none hV
  have k0 := h0
  have lt0 : ∀ x ∈ p0, x.block < W.heap.size := by obtain ⟨m, hm⟩ := k0; exact DataW.trod_lt m _ _ _ hm
  obtain ⟨a0, ok0, s0⟩ := Ax.arg_int Try.underlying5 (hval 0 5 v0 rfl rfl) h0
  have k1 := h1
  have lt1 : ∀ x ∈ p1, x.block < W.heap.size := by obtain ⟨m, hm⟩ := k1; exact DataW.trod_lt m _ _ _ hm
  obtain ⟨a1, ok1, s1⟩ := Ax.arg_int Try.underlying3 (hval 1 3 v1 rfl rfl) h1
  have k2 := h2
  have lt2 : ∀ x ∈ p2, x.block < W.heap.size := by obtain ⟨m, hm⟩ := k2; exact DataW.trod_lt m _ _ _ hm
  obtain ⟨a2, ok2, s2⟩ := Ax.arg_struct Try.underlying49 Ax.sh_skC (hval 2 49 v2 rfl rfl) h2
  have k3 := h3
  have lt3 : ∀ x ∈ p3, x.block < W.heap.size := by obtain ⟨m, hm⟩ := k3; exact DataW.trod_lt m _ _ _ hm
  obtain ⟨a3, ok3, s3⟩ := Ax.arg_int Try.underlying3 (hval 3 3 v3 rfl rfl) h3
  clear hA0 hval0
  refine (Ax.law_walk (w := W) (Ax.dom_any W) (Ax.dtells_c a0 a1 a2 a3) (by simp) (.cons s0 (.cons s1 (.cons s2 (.cons s3 .nil))))).mono fun e W' ⟨he, bel⟩ => ?_
  subst he
  exact ⟨_, rfl, _, _, _, [], _, [], hW', trodAll_mk1 (shut_bool Try.underlying4 _), (trodAll_cons_mk (Below.trod laidOut (by kernel_rfl) (of_decide_eq_true (by kernel_rfl)) k0 bel lt0) (trodAll_cons_mk (Below.trod laidOut (by kernel_rfl) (of_decide_eq_true (by kernel_rfl)) k1 bel lt1) (trodAll_cons_mk (Below.trod laidOut (by kernel_rfl) (of_decide_eq_true (by kernel_rfl)) k2 bel lt2) (trodAll_cons_mk (Below.trod laidOut (by kernel_rfl) (of_decide_eq_true (by kernel_rfl)) k3 bel lt3) trodAll_mk0)))), rfl, bel.frame _, fun h => by cases h⟩

theorem over : Rows.drainTellsRow.holds Try.pinned (OpenSpec.ofChange Rows.drainTellsSpec) :=
  OpenClaim.holds_of_wide 6 Try.f6 rfl rfl rfl rfl rfl rfl rfl ⟨rfl, rfl, rfl, rfl, rfl⟩ rfl rfl rfl rfl rfl (by kernel_rfl) Try.func6 (by kernel_rfl)
    (of_decide_eq_true (by kernel_rfl)) (by unfold Func.isWrapper; first | (rw [if_pos (by decide +kernel)]; kernel_rfl) | (rw [if_neg (by decide +kernel)]; exact ⟨rfl, rfl⟩))
    (fun os started H enc _ => lifted os started H enc)

theorem proved : Rows.DrainTellsSaid := over
#print axioms proved
end Go.Proofs.Ytdfocmmajngelaa.drainTells
