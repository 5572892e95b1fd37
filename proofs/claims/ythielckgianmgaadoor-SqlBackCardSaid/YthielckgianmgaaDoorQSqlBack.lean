/- The text that says a verb says it, with blanks around it, too; a text that says one says what its own text does (P26.3): for every input. -/
import Derived.Test.YthielckgianmgaaDoorQAxSx
import Derived.Test.YthielckgianmgaaDoorQAxX
import Derived.Test.YthielckgianmgaaDoorRows
import Derived.Test.YthielckgianmgaaDoorQAxSz
import Derived.Test.YthielckgianmgaaDoorCards
import Derived.Test.YthielckgianmgaaDoorTie
import Derived.Test.YthielckgianmgaaDoorQElems
import Derived.WalkKit
import Derived.ProofKit
import Derived.OpenShut
import Derived.ShutString
import Derived.ChangeOld
import Derived.Below
import Derived.LaidMore
import Derived.Lay
import Derived.SevenTiedAt
import Derived.Stop.Joined
/- What reads as data of the types of package api is laid out as their structures are. Written by gen/ax_types.py. -/
namespace Go.Proofs.YthielckgianmgaaDoor.Ax
open Go.RowKit Go By
set_option linter.unusedSimpArgs false
set_option linter.unusedVariables false

theorem i64_wf {n : Int} (h : (Lit.int .i64 n).wf = true) : -9223372036854775808 ≤ n ∧ n ≤ 9223372036854775807 := by
  simp [Lit.wf, IntKind.min, IntKind.max, IntKind.signed, IntKind.bits] at h
  omega
theorem sh_int : Shape Tryd.prog 3 (fun n : Int => [.v (.int .i64 n)]) (fun n => -9223372036854775808 ≤ n ∧ n ≤ 9223372036854775807) := Shape.map (shape_int Tryd.underlying3) id (fun _ => rfl) (fun _ => i64_wf)
theorem sh_str : Shape Tryd.prog 9 strC (fun s => s.length ≤ maxLen) := shape_str Tryd.underlying9
def OkVb (x : Vb) : Prop := (-9223372036854775808 ≤ x.kind ∧ x.kind ≤ 9223372036854775807) ∧ (-9223372036854775808 ≤ x.n ∧ x.n ≤ 9223372036854775807) ∧ x.code.length ≤ maxLen
theorem sh_vbC : Shape Tryd.prog 23 vbC OkVb :=
  Shape.map (shape_struct Tryd.underlying23 (by kernel_rfl) (shape_cons (k := 1) rfl (by kernel_rfl) sh_int (by kernel_rfl) (shape_cons (k := 1) rfl (by kernel_rfl) sh_int (by kernel_rfl) (shape_one (k := 1) rfl (by kernel_rfl) sh_str)))) (fun p => ⟨p.1, p.2.1, p.2.2⟩) (fun _ => rfl) (fun _ h => h)
end Go.Proofs.YthielckgianmgaaDoor.Ax
/- Printing what texts say, over values without memory: sql, the document's answer, the statements of layer 26. -/
namespace Go.Proofs.YthielckgianmgaaDoor.Ax
open Go.RowKit Go By Dg
set_option linter.unusedSimpArgs false
set_option linter.unusedVariables false
set_option maxRecDepth 10000

theorem eqVb (a b : Vb) : eqCs [1, 1, 2] (vbC a) (vbC b) = some (decide (a = b)) := by
  cases a with | mk k n c =>
  cases b with | mk k2 n2 c2 =>
  simp [vbC_mk]
  by_cases e1 : k = k2 <;> by_cases e2 : n = n2 <;> by_cases e3 : c = c2 <;> simp [e1, e2, e3]
def okV (v : Vb) : Prop := -9223372036854775808 ≤ v.n ∧ v.n ≤ 9223372036854775807 ∧ v.code.length ≤ 100000
theorem qprint_c (v : Vb) (ok : okV v) (h : List (List AV)) : Contract Tryd.prog 8 [.agg (vbC v)] h (.v (.string (strB (printQ v)))) h [] := by
  obtain ⟨h1, h2, h3⟩ := ok
  have hl := text_len v h1 h2
  have hc := qparse_c (textQ v) (by omega)
  refine contract_of k8 mixed (by simp [c8]) fun hh hargs => ?_
  simp [c8]
  refine xcall_self (by simp) (qword_c _ _) ?_
  unfold printQ
  by_cases e5 : v.kind = 5
  · have et : textQ v = selT ++ Dg.textL v.n := by unfold textQ; rw [if_pos e5]
    have ew : wordQ v.kind = selT := by rw [e5]; rfl
    rw [ew]
    rw [et] at hc ⊢
    simp [e5]
    have hf : selT.length + (Dg.textL v.n).length ≤ 9223372036854775807 := by
      rw [et, List.length_append] at hl; omega
    refine xcall_self (by simp) (dtext_c v.n h1 h2 _) ?_
    simp [hf]
    refine xcall_self (by simp) (hc _) ?_
    by_cases e : sayQ (trimL (selT ++ Dg.textL v.n)) = v
    · simp [eqVb, e, hh]
    · simp [eqVb, e, hh]
  by_cases e8 : v.kind = 8
  · have et : textQ v = failT ++ v.code := by unfold textQ; rw [if_neg e5, if_pos e8]
    have ew : wordQ v.kind = failT := by rw [e8]; rfl
    rw [ew]
    rw [et] at hc hl ⊢
    have hf : failT.length + v.code.length ≤ 9223372036854775807 := by
      rw [List.length_append] at hl; omega
    simp [e5, e8, hf]
    refine xcall_self (by simp) (hc _) ?_
    by_cases e : sayQ (trimL (failT ++ v.code)) = v
    · simp [eqVb, e, hh]
    · simp [eqVb, e, hh]
  have et : textQ v = wordQ v.kind := by unfold textQ; rw [if_neg e5, if_neg e8]
  rw [et] at hc ⊢
  simp [e5, e8]
  refine xcall_self (by simp) (hc _) ?_
  by_cases e : sayQ (trimL (wordQ v.kind)) = v
  · simp [eqVb, e, hh]
  · simp [eqVb, e, hh]
theorem qexit_c (v : Vb) (h : List (List AV)) : Contract Tryd.prog 10 [.agg (vbC v)] h (.v (.bool ([3, 4].contains v.kind))) h [] := by
  refine contract_of k10 mixed (by simp [c10]) fun hh hargs => ?_
  simp [c10]
  refine xcall_of (qis_c v [3, 4] (by simp) _) (by simp [intC]) (by simp) ?_
  simp [hh]
theorem qrows_c (v : Vb) (h : List (List AV)) : Contract Tryd.prog 12 [.agg (vbC v)] h (.v (.bool ([5, 6, 7].contains v.kind))) h [] := by
  refine contract_of k12 mixed (by simp [c12]) fun hh hargs => ?_
  simp [c12]
  refine xcall_of (qis_c v [5, 6, 7] (by simp) _) (by simp [intC]) (by simp) ?_
  simp [hh]
def colsQ (v : Vb) (n : Int) : Int := if v.kind = 6 then minZ (maxZ n [0]) [1000] else if [5, 6, 7].contains v.kind = true then 1 else 0
theorem qcols_c (v : Vb) (n : Int) (h : List (List AV)) : Contract Tryd.prog 14 [.agg (vbC v), .v (.int .i64 n)] h (.v (.int .i64 (colsQ v n))) h [] := by
  refine contract_of k14 mixed (by simp [c14]) fun hh hargs => ?_
  simp [c14]
  unfold colsQ
  by_cases e : v.kind = 6
  · simp [e, hh]
    done
  · simp [e]
    refine xcall_self (by simp) (qrows_c v _) ?_
    by_cases e5 : v.kind = 5
    · simp [e5, hh]
    by_cases e7 : v.kind = 7
    · simp [e7, hh]
    simp [e, e5, e7, hh]
/-! ### The laws -/
theorem qawake_c (h : List (List AV)) : Contract Tryd.prog 5 [] h (.v (.bool true)) h [] := by
  have e1 : sayQ (trimL [32, 115, 101, 108, 101, 99, 116, 32, 55, 32]) = ⟨5, 7, []⟩ := by decide +kernel
  have e2 : sayQ (trimL [99, 111, 109, 109, 105, 116]) = ⟨3, 0, []⟩ := by decide +kernel
  have e3 : printQ ⟨5, 7, []⟩ = [115, 101, 108, 101, 99, 116, 32, 55] := by decide +kernel
  have e4 : colsQ ⟨5, 7, []⟩ 3 = 1 := by decide +kernel
  refine contract_of k5 mixed (by simp [c5]) fun hh hargs => ?_
  have k1 := fun h => qparse_c [32, 115, 101, 108, 101, 99, 116, 32, 55, 32] (by simp) h
  have k2 := fun h => qparse_c [99, 111, 109, 109, 105, 116] (by simp) h
  have k3 := fun h => qprint_c ⟨5, 7, []⟩ ⟨by simp, by simp, by simp⟩ h
  have k4 := fun h => qcols_c ⟨5, 7, []⟩ 3 h
  have k5 := fun h => qrows_c ⟨5, 7, []⟩ h
  have k6 := fun h => qexit_c ⟨3, 0, []⟩ h
  simp only [e1] at k1
  simp only [e2] at k2
  simp only [e3] at k3
  simp only [e4] at k4
  simp [c5]
  refine xcall_self (by simp) (k1 _) ?_
  simp
  refine xcall_self (by simp) (k5 _) ?_
  simp
  refine xcall_self (by simp) (k4 _) ?_
  simp
  refine xcall_self (by simp) (k2 _) ?_
  simp
  refine xcall_self (by simp) (k6 _) ?_
  simp
  refine xcall_self (by simp) (k3 _) ?_
  simp [hh]
end Go.Proofs.YthielckgianmgaaDoor.Ax
/- Verbs there and back: the statement SqlBack of layer 26. -/
namespace Go.Proofs.YthielckgianmgaaDoor.Ax
open Go.RowKit Go By Dg
set_option linter.unusedSimpArgs false
set_option linter.unusedVariables false
set_option maxRecDepth 10000

theorem say_ok {u : List UInt8} (hu : u.length ≤ 10000) : okV (sayQ u) := by
  unfold sayQ
  have small : ∀ k : Int, okV ⟨k, 0, []⟩ := fun k => ⟨by simp, by simp, by simp⟩
  repeat' split
  all_goals first | exact small _ | skip
  · rename_i h
    have h1 : parseV (u.drop 7) 99 = (numL (u.drop 7) : Int) := by unfold parseV; rw [if_pos h.2]
    have h2 : (numL (u.drop 7) : Int) ≤ 99 := by
      have := h.2
      unfold parseB at this
      simp only [Bool.and_eq_true, decide_eq_true_eq] at this
      exact this.2
    refine ⟨?_, ?_, by simp⟩ <;> show _ ≤ _ <;> simp only [h1] <;> omega
  · refine ⟨by simp, by simp, ?_⟩
    simp; omega
theorem blanks_c (n : Int) (h0 : 0 ≤ n) (h1 : n < 256) (h : List (List AV)) : Contract Tryd.prog 16 [.v (.int .u8 n)] h (.v (.string (strB (List.replicate (n.tmod 20).toNat 32)))) h [] := by
  have hm1 : 0 ≤ n.tmod 20 := Int.tmod_nonneg 20 h0
  have hm2 : n.tmod 20 < 20 := Int.tmod_lt_of_pos n (by decide)
  obtain ⟨m, hm⟩ : ∃ m : Nat, n.tmod 20 = (m : Int) := ⟨_, (Int.toNat_of_nonneg hm1).symm⟩
  refine contract_of k16 mixed (by simp [c16]) fun hh hargs => ?_
  simp [c16, hm]
  refine xloop_ok (D := Nat) (fun j => ⟨[(3, .v (.string (strB (List.replicate j 32)))), (5, .v (.int .u8 (m : Int))), (6, .v (.int .u8 (j : Int)))], [], h, []⟩) (fun j => j ≤ m) (fun j => m - j) 0 (by omega) ?_ ?_
  · simp [Leq, hh, leqH_take]
    done
  · intro j hj
    have hw : IntKind.u8.wrap ((j : Int) + 1) = (j : Int) + 1 := by
      unfold IntKind.wrap
      simp [IntKind.signed, IntKind.bits]
      omega
    by_cases hlt : j < m
    · simp [hlt, hw]
      refine ⟨by omega, j + 1, by omega, by omega, ?_⟩
      simp [Leq, hh, leqH_take, List.replicate_succ']
      done
    · have : j = m := by omega
      subst this
      simp [hh]
      done
theorem sqlback_c (s : List UInt8) (v : Vb) (a b : Int) (hv : OkVb v) (ha : (Lit.int .u8 a).wf = true) (hb : (Lit.int .u8 b).wf = true) : Contract Tryd.prog 4 [.v (.string (strB s)), .agg (vbC v), .v (.int .u8 a), .v (.int .u8 b)] [] (.v (.bool true)) [] [] := by
  have rng : ∀ {n : Int}, (Lit.int .u8 n).wf = true → 0 ≤ n ∧ n < 256 := fun h => by
    simp [Lit.wf, IntKind.min, IntKind.max, IntKind.signed, IntKind.bits] at h
    omega
  obtain ⟨a1, a2⟩ := rng ha
  obtain ⟨b1, b2⟩ := rng hb
  have ba := fun h => blanks_c a a1 a2 h
  have bb := fun h => blanks_c b b1 b2 h
  have la : (a.tmod 20).toNat < 20 := by have := Int.tmod_lt_of_pos a (show (0 : Int) < 20 by decide); omega
  have lb : (b.tmod 20).toNat < 20 := by have := Int.tmod_lt_of_pos b (show (0 : Int) < 20 by decide); omega
  generalize (a.tmod 20).toNat = na at *
  generalize (b.tmod 20).toNat = nb at *
  refine contract_cut (XCode.cuts [false, false, false, true] c4.code) k4 rfl mixed (by simp [c4]) fun hh hargs => ?_
  by_cases hx : (1000 : Int) < s.length
  · simp [c4, hx]
    refine xcall_self (by simp) (qawake_c _) ?_
    simp
  by_cases hy : (300 : Int) < v.code.length
  · simp [c4, hx, hy]
    refine xcall_self (by simp) (qawake_c _) ?_
    simp
  have hs : s.length ≤ 10000 := by omega
  have ok : okV v := ⟨hv.2.1.1, hv.2.1.2, by omega⟩
  have okw : okV (sayQ (trimL s)) := say_ok (Nat.le_trans (trim_len s) hs)
  have lp := print_len v ok.1 ok.2.1
  simp [c4, hx, hy]
  refine xseq_cut ⟨[(0, .v (.string (strB s))), (2, .v (.int .u8 a)), (3, .v (.int .u8 b)), (5, .box 0 0), (9, .fn (.func 16) [] [])], [], [vbC v], []⟩ ?_ ?_
  · simp
    refine xcall_self (by simp) (qprint_c v ok _) ?_
    have hp := say_print v
    generalize printQ v = t at hp lp ⊢
    by_cases ht : t = []
    · subst ht
      simp [Leq]
    · have hp := hp ht
      have m1 : (t != []) = true := by simpa using ht
      have m2 : t.isEmpty = false := by simpa using ht
      have hl : (List.replicate na (32 : UInt8) ++ t ++ List.replicate nb 32).length ≤ 1000000 := by simp; omega
      have hq := fun h => qparse_c (List.replicate na 32 ++ t ++ List.replicate nb 32) hl h
      rw [trim_blanks, hp] at hq
      have f1 : na + t.length ≤ 9223372036854775807 := by omega
      have f2 : na + (t.length + nb) ≤ 9223372036854775807 := by omega
      have f3 : na + t.length + nb ≤ 9223372036854775807 := by omega
      simp [ht, m1, m2]
      refine xcall_self (by simp) (ba _) ?_
      simp [f1, m2]
      refine xcall_self (by simp) (bb _) ?_
      simp [f1, f2, f3, m2]
      rw [← List.append_assoc]
      refine xcall_self (by simp) (hq _) ?_
      simp [eqVb, Leq]
  · have hw := print_say s
    generalize hww : sayQ (trimL s) = w at okw hw
    have hq : ∀ h, Contract Tryd.prog 6 [.v (.string (strB (List.replicate na 32 ++ s)))] h (.agg (vbC w)) h [] := fun h => by
      have := qparse_c (List.replicate na 32 ++ s) (by simp; omega) h
      rwa [trim_ahead, hww] at this
    have hr : ∀ h, Contract Tryd.prog 6 [.v (.string (strB s))] h (.agg (vbC w)) h [] := fun h => by
      have := qparse_c s (by omega) h
      rwa [hww] at this
    have lw := print_len w okw.1 okw.2.1
    have lw2 := okw.2.2
    have f1 : na + s.length ≤ 9223372036854775807 := by omega
    simp
    refine xcall_self (by simp) (hr _) ?_
    by_cases hk : w.kind = 0
    · simp [hk]
      refine xcall_self (by simp) (ba _) ?_
      simp [f1]
      refine xcall_self (by simp) (hq _) ?_
      simp [eqVb]
      refine xcall_self (by simp) (qawake_c _) ?_
      simp
    · have hw := hw hk
      have m1 : (w.kind == 0) = false := by simpa using hk
      have hz := fun h => qparse_c (printQ w) (by omega) h
      rw [hw] at hz
      simp [hk, m1]
      refine xcall_self (by simp) (qprint_c w okw _) ?_
      simp
      refine xcall_self (by simp) (hz _) ?_
      simp [eqVb]
      refine xcall_self (by simp) (ba _) ?_
      simp [f1]
      refine xcall_self (by simp) (hq _) ?_
      simp [eqVb]
      refine xcall_self (by simp) (qawake_c _) ?_
      simp
end Go.Proofs.YthielckgianmgaaDoor.Ax
namespace Go.Proofs.YthielckgianmgaaDoor.sqlBack
open Go.ChangeShapes Go.WideShapes Go.ChangeAt Go.RowKit
open Go.ChangeMaps (open_string shut_string)
set_option linter.unusedVariables false

theorem own : ownKnob Tryd.prog.godebug = none := by kernel_rfl
theorem laidOut : laidOutB Tryd.prog = true := by kernel_rfl

set_option maxRecDepth 100000 in
theorem lifted (os : Os) (started : os.Started) (H : Type) (enc : TypeId × Value → H) :
    ReturnsInHanded {} Tryd.checked os 4 .any (fun w args => (Rows.sqlBackSpec.pre enc Tryd.prog Tryd.f4 Rows.sqlBackRow.domain false w args ∧ laidMetH Tryd.prog Rows.sqlBackRow.laid w) ∧ sizedMet enc Tryd.prog Tryd.f4 (OpenSpec.ofChange Rows.sqlBackSpec) false w args) (Rows.sqlBackSpec.post enc Tryd.prog Tryd.f4 false true false false) := by
  refine returnsInHanded_of_change_and (C := Tryd.checked) (X := fun w _ => laidMetH Tryd.prog Rows.sqlBackRow.laid w) (fun _ _ _ hh h => h.of_heap hh) own started (by kernel_rfl) Tryd.func4
    (ChangeSpec.witness_shaped (enc := enc) (C := Tryd.checked) (os := os) (X := fun w _ => laidMetH Tryd.prog Rows.sqlBackRow.laid w) false (World.laidAll Tryd.prog os Rows.sqlBackRow.laid) #[.string ByteArray.empty, .agg #[.int .i64 0, .int .i64 0, .string ByteArray.empty], .int .u8 0, .int .u8 0] 8 (World.laidAll_os _ _ _)
      (World.shaped_of_ZipB (by kernel_rfl) (by kernel_rfl)) (by kernel_rfl) (by kernel_rfl) (by kernel_rfl)
      (by rw [MakeChecks.laidMetH_plain _ _ _ (by kernel_rfl)]; exact laidMet_laidAll _ (by kernel_rfl) (by kernel_rfl))) ?_
  intro W base args ds gs before hval0 hW hcnd _ hL _
  have hval : ∀ (j : Nat) t v, Tryd.f4.params[j]? = some t → args[j]? = some v → Value.okWide Tryd.prog W .any base t v := hval0
  have hW' := hW
  obtain ⟨p, q, hA0, hV, rfl, hfz, hnd⟩ := hW
  have hA : DataW.TrodAll enc Tryd.prog W 0 (fun _ => true) true Tryd.f4.params.toList args.toList ds p := hA0
  rw [Tryd.params4] at hA hval
  obtain ⟨v0, vs0, d0, ds0, p0, q0, hargs, rfl, rfl, h0, r0⟩ := trodAll_cons hA
  obtain ⟨v1, vs1, d1, ds1, p1, q1, rfl, rfl, rfl, h1, r1⟩ := trodAll_cons r0
  obtain ⟨v2, vs2, d2, ds2, p2, q2, rfl, rfl, rfl, h2, r2⟩ := trodAll_cons r1
  obtain ⟨v3, vs3, d3, ds3, p3, q3, rfl, rfl, rfl, h3, r3⟩ := trodAll_cons r2
  obtain ⟨rfl, rfl, rfl⟩ := trodAll_nil r3
  obtain rfl : args = #[v0, v1, v2, v3] := by cases args; simp_all
  obtain ⟨rfl, rfl⟩ := trodVars_none hV
  have k0 := h0
  have lt0 : ∀ x ∈ p0, x.block < W.heap.size := by obtain ⟨m, hm⟩ := k0; exact DataW.trod_lt m _ _ _ hm
  obtain ⟨a0, ok0, s0⟩ := Ax.arg_str Tryd.underlying9 (hval 0 9 v0 rfl rfl) h0
  have k1 := h1
  have lt1 : ∀ x ∈ p1, x.block < W.heap.size := by obtain ⟨m, hm⟩ := k1; exact DataW.trod_lt m _ _ _ hm
  obtain ⟨a1, ok1, s1⟩ := Ax.arg_struct Tryd.underlying23 Ax.sh_vbC (hval 1 23 v1 rfl rfl) h1
  have k2 := h2
  have lt2 : ∀ x ∈ p2, x.block < W.heap.size := by obtain ⟨m, hm⟩ := k2; exact DataW.trod_lt m _ _ _ hm
  obtain ⟨a2, ok2, s2⟩ := Ax.arg_int Tryd.underlying5 (hval 2 5 v2 rfl rfl) h2
  have k3 := h3
  have lt3 : ∀ x ∈ p3, x.block < W.heap.size := by obtain ⟨m, hm⟩ := k3; exact DataW.trod_lt m _ _ _ hm
  obtain ⟨a3, ok3, s3⟩ := Ax.arg_int Tryd.underlying5 (hval 3 5 v3 rfl rfl) h3
  clear hA0 hval0
  refine (Ax.law_walk (w := W) (Ax.dom_any W) (Ax.sqlback_c a0 a1 a2 a3 ok1 ok2 ok3) (by simp) (.cons s0 (.cons s1 (.cons s2 (.cons s3 .nil))))).mono fun e W' ⟨he, bel⟩ => ?_
  subst he
  exact ⟨_, rfl, _, _, _, [], _, [], hW', trodAll_mk1 (shut_bool Tryd.underlying4 _), (trodAll_cons_mk (Below.trod laidOut (by kernel_rfl) (of_decide_eq_true (by kernel_rfl)) k0 bel lt0) (trodAll_cons_mk (Below.trod laidOut (by kernel_rfl) (of_decide_eq_true (by kernel_rfl)) k1 bel lt1) (trodAll_cons_mk (Below.trod laidOut (by kernel_rfl) (of_decide_eq_true (by kernel_rfl)) k2 bel lt2) (trodAll_cons_mk (Below.trod laidOut (by kernel_rfl) (of_decide_eq_true (by kernel_rfl)) k3 bel lt3) trodAll_mk0)))), rfl, bel.frame _, fun h => by cases h⟩

theorem over : Rows.sqlBackRow.holds Tryd.pinned (OpenSpec.ofChange Rows.sqlBackSpec) :=
  OpenClaim.holds_of_wide 4 Tryd.f4 rfl rfl rfl rfl rfl rfl rfl ⟨rfl, rfl, rfl, rfl, rfl⟩ rfl rfl rfl rfl rfl (by kernel_rfl) Tryd.func4 (by kernel_rfl)
    (of_decide_eq_true (by kernel_rfl)) (by unfold Func.isWrapper; first | (rw [if_pos (by decide +kernel)]; kernel_rfl) | (rw [if_neg (by decide +kernel)]; exact ⟨rfl, rfl⟩))
    (fun os started H enc _ => lifted os started H enc)

theorem proved : Rows.SqlBackCardSaid :=
  Claim7.holds_tied_plain_at .later [] [.data, .pinned] true (true, "4bad6c3569888bc7e5edeff2f0d927aa0e409919f228b8d712a2963c3b010752") false over (fun _ h => by cases h) (by kernel_rfl) (fun _ h => by cases h) sqlBack_row_tie rfl ⟨rfl, rfl⟩ (by kernel_rfl) rfl
    (fun f fn hf hfn => by
      obtain rfl : f = 4 := Option.some.inj ((show Tryd.prog.funcNamed "remuda/remudalaw26.SqlBack" = some 4 by kernel_rfl).symm.trans hf) |>.symm
      obtain rfl : fn = Tryd.f4 := (Option.some.inj (Tryd.func4.symm.trans hfn)).symm
      exact ⟨by kernel_rfl, fun j t ht => by
        rw [Tryd.params4] at ht
        have hm : t ∈ [9, 23, 5, 5] := by simpa using Array.mem_of_getElem? ht
        have hall : ([9, 23, 5, 5].all fun u => !Tryd.prog.wantsStandIn u) = true := by kernel_rfl
        exact (show Tryd.prog.wantsStandIn t = false by simpa using List.all_eq_true.1 hall t hm)⟩)
    (by kernel_rfl)
#print axioms proved
end Go.Proofs.YthielckgianmgaaDoor.sqlBack
