/- A server is idle just where its status is that of no transaction, nothing is to come, and nothing was sent since. -/
import Derived.Test.YtdfocmmajngelaaQAxX
import Derived.Test.YtdfocmmajngelaaRows
import Derived.Test.YtdfocmmajngelaaQAxSk
import Derived.Test.YtdfocmmajngelaaQAxFq
import Derived.Test.YtdfocmmajngelaaQCodeDr
import Derived.Test.YtdfocmmajngelaaQElems
import Derived.WalkKit
import Derived.ProofKit
import Derived.OpenShut
import Derived.ShutString
import Derived.ChangeOld
import Derived.Below
/- The texts of functions over values without memory, as the kernel reckons them out of the program. -/
namespace Go.Proofs.Ytdfocmmajngelaa.Ax
open Go.RowKit Go By

end Go.Proofs.Ytdfocmmajngelaa.Ax
/- Layer 34: what is done with a server whose client is gone, over values without memory. -/
namespace Go.Proofs.Ytdfocmmajngelaa.Ax
open Go.RowKit Go By Ytdfocmmajngelaa.Nm Sc Dg
open He (textL)
set_option linter.unusedSimpArgs false
set_option linter.unusedVariables false
set_option maxRecDepth 10000

def planI (k l : Int) (s : Sk) : Int := if s.wait = true then 1 else if s.on = true ∨ s.dirty = true then 2 else if 0 < l then 1 else if k = 73 then 0 else 3
def syncL : List UInt8 := [83, 0, 0, 0, 4]
def rollL : List UInt8 := [81, 0, 0, 0, 13, 114, 111, 108, 108, 98, 97, 99, 107, 0]
def planB (p : Int) : List UInt8 := if p = 2 then syncL else if p = 3 then rollL else []
section
variable {h : List (List AV)}
theorem dplan_c (k l : Int) (s : Sk) : Contract Try.prog 23 [.v (.int .u8 k), .v (.int .i64 l), .agg (skC s)] h (.v (.int .i64 (planI k l s))) h [] := by
  obtain ⟨a, b, d⟩ := s
  refine contract_of k23 mixedSk (by simp [c23]) fun hh hargs => ?_
  unfold planI skC
  by_cases h1 : 0 < l <;> by_cases h2 : k = 73 <;> cases a <;> cases b <;> cases d <;> simp [c23, hh, h1, h2]
theorem dbytes_c (p : Int) : Contract Try.prog 26 [.v (.int .i64 p)] h (.sl 1 (bytesE (planB p)) none .no) h [] := by
  refine contract_of k26 mixedSk (by simp [c26]) fun hh hargs => ?_
  unfold planB
  by_cases h2 : p = 2
  · simp [c26, hh, h2, syncL]
  · by_cases h3 : p = 3
    · simp [c26, hh, h2, h3, rollL]
    · simp [c26, hh, h2, h3]
/-! ### The document's -/
theorem dawake_c : Contract Try.prog 28 [] h (.v (.bool true)) h [] := by
  refine contract_of k28 mixedSk (by simp [c28]) fun hh hargs => ?_
  have ct1 := dplan_c (h := h) 84 0 ⟨false, false, false⟩
  have ct2 := dplan_c (h := h) 73 0 ⟨false, false, false⟩
  have ct3 := dbytes_c (h := h) 2
  simp [planI, planB, syncL, skC] at ct1 ct2 ct3
  simp [c28]
  refine xcall_self (by simp) ct1 ?_
  simp
  refine xcall_self (by simp) ct2 ?_
  simp
  refine xcall_self (by simp) ct3 ?_
  simp [hh]
theorem dplan_zero (k l : Int) (s : Sk) : planI k l s = 0 ↔ (k = 73 ∧ l ≤ 0 ∧ s.on = false ∧ s.wait = false ∧ s.dirty = false) := by
  obtain ⟨a, b, d⟩ := s
  unfold planI
  cases a <;> cases b <;> cases d <;> by_cases h2 : k = 73 <;> by_cases h1 : 0 < l <;> simp [h1, h2] <;> omega
theorem didle_c (k l : Int) (s : Sk) : Contract Try.prog 7 [.v (.int .u8 k), .v (.int .i64 l), .agg (skC s)] [] (.v (.bool true)) [] [] := by
  have ct1 := dplan_c (h := [skC s]) k l s
  have hz := dplan_zero k l s
  generalize planI k l s = p at *
  obtain ⟨a, b, d⟩ := s
  simp only [skC] at ct1 hz
  obtain ⟨q, hq⟩ : ∃ q : Bool, (l ≤ 0) = (q = true) := ⟨decide (l ≤ 0), by simp⟩
  rw [hq] at hz
  have hp : (p == 0) = ((k == 73) && (q && (!a && (!b && !d)))) := by
    rw [Bool.eq_iff_iff]; simp [hz]
  refine contract_of k7 mixedSk (by simp [c7]) fun hh hargs => ?_
  simp [c7, skC]
  refine xcall_self (by simp) ct1 ?_
  cases h2 : (k == 73) <;> cases q <;> cases a <;> cases b <;> cases d <;> rw [h2] at hp <;> simp only [Bool.and_true, Bool.and_false, Bool.true_and, Bool.false_and, Bool.not_true, Bool.not_false] at hp <;> simp [h2, hp, hq] <;> refine xcall_self (by simp) dawake_c ?_ <;> simp
end
end Go.Proofs.Ytdfocmmajngelaa.Ax
namespace Go.Proofs.Ytdfocmmajngelaa.drainIdle
open Go.ChangeShapes Go.WideShapes Go.ChangeAt Go.RowKit
open Go.ChangeMaps (open_string shut_string)
set_option linter.unusedVariables false

theorem own : ownKnob Try.prog.godebug = none := by kernel_rfl
theorem laidOut : laidOutB Try.prog = true := by kernel_rfl

set_option maxRecDepth 100000 in
theorem lifted (os : Os) (started : os.Started) (H : Type) (enc : TypeId × Value → H) :
    ReturnsInHanded {} Try.checked os 7 .any (Rows.drainIdleSpec.pre6 enc Try.prog Try.f7 Rows.drainIdleRow.domain false) (Rows.drainIdleSpec.post enc Try.prog Try.f7 false true false false) := by
  refine returnsInHanded_of_change (C := Try.checked) own started (by kernel_rfl) Try.func7
    (ChangeSpec.witness6 (enc := enc) (C := Try.checked) false ⟨#[], #[.int .u8 0, .int .i64 0, .agg #[.bool false, .bool false, .bool false]], []⟩ 8 (by kernel_rfl) (by kernel_rfl) (by kernel_rfl) (by kernel_rfl)) ?_
  intro W base args ds gs before hval0 hW hcnd _
  have hval : ∀ (j : Nat) t v, Try.f7.params[j]? = some t → args[j]? = some v → Value.okWide Try.prog W .any base t v := hval0
  have hW' := hW
  obtain ⟨p, q, hA0, hV, rfl, hfz, hnd⟩ := hW
  have hA : DataW.TrodAll enc Try.prog W 0 (fun _ => true) true Try.f7.params.toList args.toList ds p := hA0
  rw [Try.params7] at hA hval
  obtain ⟨v0, vs0, d0, ds0, p0, q0, hargs, rfl, rfl, h0, r0⟩ := trodAll_cons hA
  obtain ⟨v1, vs1, d1, ds1, p1, q1, rfl, rfl, rfl, h1, r1⟩ := trodAll_cons r0
  obtain ⟨v2, vs2, d2, ds2, p2, q2, rfl, rfl, rfl, h2, r2⟩ := trodAll_cons r1
  obtain ⟨rfl, rfl, rfl⟩ := trodAll_nil r2
  obtain rfl : args = #[v0, v1, v2] := by cases args; simp_all
  obtain ⟨rfl, rfl⟩ := trodVars_none hV
  have k0 := h0
  have lt0 : ∀ x ∈ p0, x.block < W.heap.size := by obtain ⟨m, hm⟩ := k0; exact DataW.trod_lt m _ _ _ hm
  obtain ⟨a0, ok0, s0⟩ := Ax.arg_int Try.underlying5 (hval 0 5 v0 rfl rfl) h0
  have k1 := h1
  have lt1 : ∀ x ∈ p1, x.block < W.heap.size := by obtain ⟨m, hm⟩ := k1; exact DataW.trod_lt m _ _ _ hm
  obtain ⟨a1, ok1, s1⟩ := Ax.arg_int Try.underlying3 (hval 1 3 v1 rfl rfl) h1
  have k2 := h2
  have lt2 : ∀ x ∈ p2, x.block < W.heap.size := by obtain ⟨m, hm⟩ := k2; exact DataW.trod_lt m _ _ _ hm
  obtain ⟨a2, ok2, s2⟩ := Ax.arg_struct Try.underlying49 Ax.sh_skC (hval 2 49 v2 rfl rfl) h2
  clear hA0 hval0
  refine (Ax.law_walk (w := W) (Ax.dom_any W) (Ax.didle_c a0 a1 a2) (by simp) (.cons s0 (.cons s1 (.cons s2 .nil)))).mono fun e W' ⟨he, bel⟩ => ?_
  subst he
  exact ⟨_, rfl, _, _, _, [], _, [], hW', trodAll_mk1 (shut_bool Try.underlying4 _), (trodAll_cons_mk (Below.trod laidOut (by kernel_rfl) (of_decide_eq_true (by kernel_rfl)) k0 bel lt0) (trodAll_cons_mk (Below.trod laidOut (by kernel_rfl) (of_decide_eq_true (by kernel_rfl)) k1 bel lt1) (trodAll_cons_mk (Below.trod laidOut (by kernel_rfl) (of_decide_eq_true (by kernel_rfl)) k2 bel lt2) trodAll_mk0))), rfl, bel.frame _, fun h => by cases h⟩

theorem over : Rows.drainIdleRow.holds Try.pinned (OpenSpec.ofChange Rows.drainIdleSpec) :=
  OpenClaim.holds_of_wide 7 Try.f7 rfl rfl rfl rfl rfl rfl rfl ⟨rfl, rfl, rfl, rfl, rfl⟩ rfl rfl rfl rfl rfl (by kernel_rfl) Try.func7 (by kernel_rfl)
    (of_decide_eq_true (by kernel_rfl)) (by unfold Func.isWrapper; first | (rw [if_pos (by decide +kernel)]; kernel_rfl) | (rw [if_neg (by decide +kernel)]; exact ⟨rfl, rfl⟩))
    (fun os started H enc _ => lifted os started H enc)

theorem proved : Rows.DrainIdleSaid := over
#print axioms proved
end Go.Proofs.Ytdfocmmajngelaa.drainIdle
