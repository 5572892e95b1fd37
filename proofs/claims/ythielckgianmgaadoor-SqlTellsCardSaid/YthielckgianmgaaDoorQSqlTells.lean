/- What any text says, what says any verb, and what it does, is what the document says (P26.1, P26.2): for every input. -/
import Derived.Test.YthielckgianmgaaDoorQAxSx
import Derived.Test.YthielckgianmgaaDoorQAxX
import Derived.Test.YthielckgianmgaaDoorRows
import Derived.Test.YthielckgianmgaaDoorQAxSz
import Derived.Test.YthielckgianmgaaDoorCards
import Derived.Test.YthielckgianmgaaDoorTie
import Derived.Test.YthielckgianmgaaDoorQElems
import Derived.WalkKit
import Derived.ProofKit
import Derived.OpenShut
import Derived.ShutString
import Derived.ChangeOld
import Derived.Below
import Derived.LaidMore
import Derived.Lay
import Derived.SevenTiedAt
import Derived.Stop.Joined
/- What reads as data of the types of package api is laid out as their structures are. Written by gen/ax_types.py. -/
namespace Go.Proofs.YthielckgianmgaaDoor.Ax
open Go.RowKit Go By
set_option linter.unusedSimpArgs false
set_option linter.unusedVariables false

theorem i64_wf {n : Int} (h : (Lit.int .i64 n).wf = true) : -9223372036854775808 ≤ n ∧ n ≤ 9223372036854775807 := by
  simp [Lit.wf, IntKind.min, IntKind.max, IntKind.signed, IntKind.bits] at h
  omega
theorem sh_int : Shape Tryd.prog 3 (fun n : Int => [.v (.int .i64 n)]) (fun n => -9223372036854775808 ≤ n ∧ n ≤ 9223372036854775807) := Shape.map (shape_int Tryd.underlying3) id (fun _ => rfl) (fun _ => i64_wf)
theorem sh_str : Shape Tryd.prog 9 strC (fun s => s.length ≤ maxLen) := shape_str Tryd.underlying9
def OkVb (x : Vb) : Prop := (-9223372036854775808 ≤ x.kind ∧ x.kind ≤ 9223372036854775807) ∧ (-9223372036854775808 ≤ x.n ∧ x.n ≤ 9223372036854775807) ∧ x.code.length ≤ maxLen
theorem sh_vbC : Shape Tryd.prog 23 vbC OkVb :=
  Shape.map (shape_struct Tryd.underlying23 (by kernel_rfl) (shape_cons (k := 1) rfl (by kernel_rfl) sh_int (by kernel_rfl) (shape_cons (k := 1) rfl (by kernel_rfl) sh_int (by kernel_rfl) (shape_one (k := 1) rfl (by kernel_rfl) sh_str)))) (fun p => ⟨p.1, p.2.1, p.2.2⟩) (fun _ => rfl) (fun _ h => h)
end Go.Proofs.YthielckgianmgaaDoor.Ax
/- Printing what texts say, over values without memory: sql, the document's answer, the statements of layer 26. -/
namespace Go.Proofs.YthielckgianmgaaDoor.Ax
open Go.RowKit Go By Dg
set_option linter.unusedSimpArgs false
set_option linter.unusedVariables false
set_option maxRecDepth 10000

theorem eqVb (a b : Vb) : eqCs [1, 1, 2] (vbC a) (vbC b) = some (decide (a = b)) := by
  cases a with | mk k n c =>
  cases b with | mk k2 n2 c2 =>
  simp [vbC_mk]
  by_cases e1 : k = k2 <;> by_cases e2 : n = n2 <;> by_cases e3 : c = c2 <;> simp [e1, e2, e3]
def okV (v : Vb) : Prop := -9223372036854775808 ≤ v.n ∧ v.n ≤ 9223372036854775807 ∧ v.code.length ≤ 100000
theorem qprint_c (v : Vb) (ok : okV v) (h : List (List AV)) : Contract Tryd.prog 8 [.agg (vbC v)] h (.v (.string (strB (printQ v)))) h [] := by
  obtain ⟨h1, h2, h3⟩ := ok
  have hl := text_len v h1 h2
  have hc := qparse_c (textQ v) (by omega)
  refine contract_of k8 mixed (by simp [c8]) fun hh hargs => ?_
  simp [c8]
  refine xcall_self (by simp) (qword_c _ _) ?_
  unfold printQ
  by_cases e5 : v.kind = 5
  · have et : textQ v = selT ++ Dg.textL v.n := by unfold textQ; rw [if_pos e5]
    have ew : wordQ v.kind = selT := by rw [e5]; rfl
    rw [ew]
    rw [et] at hc ⊢
    simp [e5]
    have hf : selT.length + (Dg.textL v.n).length ≤ 9223372036854775807 := by
      rw [et, List.length_append] at hl; omega
    refine xcall_self (by simp) (dtext_c v.n h1 h2 _) ?_
    simp [hf]
    refine xcall_self (by simp) (hc _) ?_
    by_cases e : sayQ (trimL (selT ++ Dg.textL v.n)) = v
    · simp [eqVb, e, hh]
    · simp [eqVb, e, hh]
  by_cases e8 : v.kind = 8
  · have et : textQ v = failT ++ v.code := by unfold textQ; rw [if_neg e5, if_pos e8]
    have ew : wordQ v.kind = failT := by rw [e8]; rfl
    rw [ew]
    rw [et] at hc hl ⊢
    have hf : failT.length + v.code.length ≤ 9223372036854775807 := by
      rw [List.length_append] at hl; omega
    simp [e5, e8, hf]
    refine xcall_self (by simp) (hc _) ?_
    by_cases e : sayQ (trimL (failT ++ v.code)) = v
    · simp [eqVb, e, hh]
    · simp [eqVb, e, hh]
  have et : textQ v = wordQ v.kind := by unfold textQ; rw [if_neg e5, if_neg e8]
  rw [et] at hc ⊢
  simp [e5, e8]
  refine xcall_self (by simp) (hc _) ?_
  by_cases e : sayQ (trimL (wordQ v.kind)) = v
  · simp [eqVb, e, hh]
  · simp [eqVb, e, hh]
theorem rtext26_c (v : Vb) (ok : okV v) (h : List (List AV)) : Contract Tryd.prog 27 [.agg (vbC v)] h (.v (.string (strB (textQ v)))) h [] := by
  obtain ⟨h1, h2, h3⟩ := ok
  refine contract_of k27 mixed (by simp [c27]) fun hh hargs => ?_
  unfold textQ wordQ
  by_cases e2 : v.kind = 2
  · simp [c27, hh, e2, beginT]
  by_cases e3 : v.kind = 3
  · simp [c27, hh, e3, commitT]
  by_cases e4 : v.kind = 4
  · simp [c27, hh, e4, rollT]
  by_cases e5 : v.kind = 5
  · simp [c27, e5]
    refine xcall_self (by simp) (drtext_c v.n h1 h2 _) ?_
    have h4 := dtext_len v.n h1 h2
    simp [hh, selT]
    omega
  by_cases e6 : v.kind = 6
  · simp [c27, hh, e6, echoT]
  by_cases e7 : v.kind = 7
  · simp [c27, hh, e7, nextT]
  by_cases e8 : v.kind = 8
  · simp [c27, hh, e8, failT]
    omega
  simp [c27, hh, e2, e3, e4, e5, e6, e7, e8]
theorem rprint_c (v : Vb) (ok : okV v) (h : List (List AV)) : Contract Tryd.prog 9 [.agg (vbC v)] h (.v (.string (strB (printQ v)))) h [] := by
  have hl := text_len v ok.1 ok.2.1
  have hl2 := ok.2.2
  have hc := rsay_c (textQ v) (by omega)
  have ht := rtext26_c v ok
  refine contract_of k9 mixed (by simp [c9]) fun hh hargs => ?_
  simp [c9]
  refine xcall_self (by simp) (ht _) ?_
  simp
  refine xcall_self (by simp) (hc _) ?_
  unfold printQ
  by_cases e : sayQ (trimL (textQ v)) = v
  · simp [eqVb, e]
    refine xcall_self (by simp) (ht _) ?_
    simp [hh]
  · simp [eqVb, e, hh]
theorem qexit_c (v : Vb) (h : List (List AV)) : Contract Tryd.prog 10 [.agg (vbC v)] h (.v (.bool ([3, 4].contains v.kind))) h [] := by
  refine contract_of k10 mixed (by simp [c10]) fun hh hargs => ?_
  simp [c10]
  refine xcall_of (qis_c v [3, 4] (by simp) _) (by simp [intC]) (by simp) ?_
  simp [hh]
theorem qrows_c (v : Vb) (h : List (List AV)) : Contract Tryd.prog 12 [.agg (vbC v)] h (.v (.bool ([5, 6, 7].contains v.kind))) h [] := by
  refine contract_of k12 mixed (by simp [c12]) fun hh hargs => ?_
  simp [c12]
  refine xcall_of (qis_c v [5, 6, 7] (by simp) _) (by simp [intC]) (by simp) ?_
  simp [hh]
def colsQ (v : Vb) (n : Int) : Int := if v.kind = 6 then minZ (maxZ n [0]) [1000] else if [5, 6, 7].contains v.kind = true then 1 else 0
theorem qcols_c (v : Vb) (n : Int) (h : List (List AV)) : Contract Tryd.prog 14 [.agg (vbC v), .v (.int .i64 n)] h (.v (.int .i64 (colsQ v n))) h [] := by
  refine contract_of k14 mixed (by simp [c14]) fun hh hargs => ?_
  simp [c14]
  unfold colsQ
  by_cases e : v.kind = 6
  · simp [e, hh]
    done
  · simp [e]
    refine xcall_self (by simp) (qrows_c v _) ?_
    by_cases e5 : v.kind = 5
    · simp [e5, hh]
    by_cases e7 : v.kind = 7
    · simp [e7, hh]
    simp [e, e5, e7, hh]
theorem rexit_c (v : Vb) (h : List (List AV)) : Contract Tryd.prog 11 [.agg (vbC v)] h (.v (.bool ([3, 4].contains v.kind))) h [] := by
  refine contract_of k11 mixed (by simp [c11]) fun hh hargs => ?_
  by_cases e3 : v.kind = 3
  · simp [c11, e3, hh]
  · have m3 : (v.kind == 3) = false := by simpa using e3
    simp [c11, e3, m3, hh]
    rfl
theorem rrows_c (v : Vb) (h : List (List AV)) : Contract Tryd.prog 13 [.agg (vbC v)] h (.v (.bool ([5, 6, 7].contains v.kind))) h [] := by
  refine contract_of k13 mixed (by simp [c13]) fun hh hargs => ?_
  by_cases e5 : v.kind = 5
  · simp [c13, e5, hh]
  have m5 : (v.kind == 5) = false := by simpa using e5
  by_cases e6 : v.kind = 6
  · simp [c13, e6, hh]
  have m6 : (v.kind == 6) = false := by simpa using e6
  simp [c13, e5, e6, m5, m6, hh]
  rfl
theorem rcols_c (v : Vb) (n : Int) (h : List (List AV)) : Contract Tryd.prog 15 [.agg (vbC v), .v (.int .i64 n)] h (.v (.int .i64 (colsQ v n))) h [] := by
  refine contract_of k15 mixed (by simp [c15]) fun hh hargs => ?_
  unfold colsQ
  by_cases e6 : v.kind = 6
  · simp [c15, e6, hh]
    done
  by_cases e5 : v.kind = 5
  · simp [c15, e5, hh]
    done
  by_cases e7 : v.kind = 7
  · simp [c15, e7, hh]
    done
  simp [c15, e5, e6, e7, hh]
  done

/-! ### The laws -/
theorem qawake_c (h : List (List AV)) : Contract Tryd.prog 5 [] h (.v (.bool true)) h [] := by
  have e1 : sayQ (trimL [32, 115, 101, 108, 101, 99, 116, 32, 55, 32]) = ⟨5, 7, []⟩ := by decide +kernel
  have e2 : sayQ (trimL [99, 111, 109, 109, 105, 116]) = ⟨3, 0, []⟩ := by decide +kernel
  have e3 : printQ ⟨5, 7, []⟩ = [115, 101, 108, 101, 99, 116, 32, 55] := by decide +kernel
  have e4 : colsQ ⟨5, 7, []⟩ 3 = 1 := by decide +kernel
  refine contract_of k5 mixed (by simp [c5]) fun hh hargs => ?_
  have k1 := fun h => qparse_c [32, 115, 101, 108, 101, 99, 116, 32, 55, 32] (by simp) h
  have k2 := fun h => qparse_c [99, 111, 109, 109, 105, 116] (by simp) h
  have k3 := fun h => qprint_c ⟨5, 7, []⟩ ⟨by simp, by simp, by simp⟩ h
  have k4 := fun h => qcols_c ⟨5, 7, []⟩ 3 h
  have k5 := fun h => qrows_c ⟨5, 7, []⟩ h
  have k6 := fun h => qexit_c ⟨3, 0, []⟩ h
  simp only [e1] at k1
  simp only [e2] at k2
  simp only [e3] at k3
  simp only [e4] at k4
  simp [c5]
  refine xcall_self (by simp) (k1 _) ?_
  simp
  refine xcall_self (by simp) (k5 _) ?_
  simp
  refine xcall_self (by simp) (k4 _) ?_
  simp
  refine xcall_self (by simp) (k2 _) ?_
  simp
  refine xcall_self (by simp) (k6 _) ?_
  simp
  refine xcall_self (by simp) (k3 _) ?_
  simp [hh]
theorem sqltells_c (s : List UInt8) (v : Vb) (n : Int) (hv : OkVb v) : Contract Tryd.prog 3 [.v (.string (strB s)), .agg (vbC v), .v (.int .i64 n)] [] (.v (.bool true)) [] [] := by
  refine contract_of k3 mixed (by simp [c3]) fun hh hargs => ?_
  by_cases hx : (1000 : Int) < s.length
  · simp [c3, hx]
    refine xcall_self (by simp) (qawake_c _) ?_
    simp
  by_cases hy : (300 : Int) < v.code.length
  · simp [c3, hx, hy]
    refine xcall_self (by simp) (qawake_c _) ?_
    simp
  have hs : s.length ≤ 1000000 := by omega
  have ok : okV v := ⟨hv.2.1.1, hv.2.1.2, by omega⟩
  simp [c3, hx, hy]
  refine xcall_self (by simp) (qparse_c s hs _) ?_
  simp
  refine xcall_self (by simp) (rsay_c s hs _) ?_
  simp [eqVb]
  refine xcall_self (by simp) (qprint_c v ok _) ?_
  simp
  refine xcall_self (by simp) (rprint_c v ok _) ?_
  simp
  refine xcall_self (by simp) (qexit_c v _) ?_
  simp
  refine xcall_self (by simp) (rexit_c v _) ?_
  simp
  refine xcall_self (by simp) (qrows_c v _) ?_
  simp
  refine xcall_self (by simp) (rrows_c v _) ?_
  simp
  refine xcall_self (by simp) (qcols_c v n _) ?_
  simp
  refine xcall_self (by simp) (rcols_c v n _) ?_
  simp
  refine xcall_self (by simp) (qawake_c _) ?_
  simp
end Go.Proofs.YthielckgianmgaaDoor.Ax
namespace Go.Proofs.YthielckgianmgaaDoor.sqlTells
open Go.ChangeShapes Go.WideShapes Go.ChangeAt Go.RowKit
open Go.ChangeMaps (open_string shut_string)
set_option linter.unusedVariables false

theorem own : ownKnob Tryd.prog.godebug = none := by kernel_rfl
theorem laidOut : laidOutB Tryd.prog = true := by kernel_rfl

set_option maxRecDepth 100000 in
theorem lifted (os : Os) (started : os.Started) (H : Type) (enc : TypeId × Value → H) :
    ReturnsInHanded {} Tryd.checked os 3 .any (fun w args => (Rows.sqlTellsSpec.pre enc Tryd.prog Tryd.f3 Rows.sqlTellsRow.domain false w args ∧ laidMetH Tryd.prog Rows.sqlTellsRow.laid w) ∧ sizedMet enc Tryd.prog Tryd.f3 (OpenSpec.ofChange Rows.sqlTellsSpec) false w args) (Rows.sqlTellsSpec.post enc Tryd.prog Tryd.f3 false true false false) := by
  refine returnsInHanded_of_change_and (C := Tryd.checked) (X := fun w _ => laidMetH Tryd.prog Rows.sqlTellsRow.laid w) (fun _ _ _ hh h => h.of_heap hh) own started (by kernel_rfl) Tryd.func3
    (ChangeSpec.witness_shaped (enc := enc) (C := Tryd.checked) (os := os) (X := fun w _ => laidMetH Tryd.prog Rows.sqlTellsRow.laid w) false (World.laidAll Tryd.prog os Rows.sqlTellsRow.laid) #[.string ByteArray.empty, .agg #[.int .i64 0, .int .i64 0, .string ByteArray.empty], .int .i64 0] 8 (World.laidAll_os _ _ _)
      (World.shaped_of_ZipB (by kernel_rfl) (by kernel_rfl)) (by kernel_rfl) (by kernel_rfl) (by kernel_rfl)
      (by rw [MakeChecks.laidMetH_plain _ _ _ (by kernel_rfl)]; exact laidMet_laidAll _ (by kernel_rfl) (by kernel_rfl))) ?_
  intro W base args ds gs before hval0 hW hcnd _ hL _
  have hval : ∀ (j : Nat) t v, Tryd.f3.params[j]? = some t → args[j]? = some v → Value.okWide Tryd.prog W .any base t v := hval0
  have hW' := hW
  obtain ⟨p, q, hA0, hV, rfl, hfz, hnd⟩ := hW
  have hA : DataW.TrodAll enc Tryd.prog W 0 (fun _ => true) true Tryd.f3.params.toList args.toList ds p := hA0
  rw [Tryd.params3] at hA hval
  obtain ⟨v0, vs0, d0, ds0, p0, q0, hargs, rfl, rfl, h0, r0⟩ := trodAll_cons hA
  obtain ⟨v1, vs1, d1, ds1, p1, q1, rfl, rfl, rfl, h1, r1⟩ := trodAll_cons r0
  obtain ⟨v2, vs2, d2, ds2, p2, q2, rfl, rfl, rfl, h2, r2⟩ := trodAll_cons r1
  obtain ⟨rfl, rfl, rfl⟩ := trodAll_nil r2
  obtain rfl : args = #[v0, v1, v2] := by cases args; simp_all
  obtain ⟨rfl, rfl⟩ := trodVars_none hV
  have k0 := h0
  have lt0 : ∀ x ∈ p0, x.block < W.heap.size := by obtain ⟨m, hm⟩ := k0; exact DataW.trod_lt m _ _ _ hm
  obtain ⟨a0, ok0, s0⟩ := Ax.arg_str Tryd.underlying9 (hval 0 9 v0 rfl rfl) h0
  have k1 := h1
  have lt1 : ∀ x ∈ p1, x.block < W.heap.size := by obtain ⟨m, hm⟩ := k1; exact DataW.trod_lt m _ _ _ hm
  obtain ⟨a1, ok1, s1⟩ := Ax.arg_struct Tryd.underlying23 Ax.sh_vbC (hval 1 23 v1 rfl rfl) h1
  have k2 := h2
  have lt2 : ∀ x ∈ p2, x.block < W.heap.size := by obtain ⟨m, hm⟩ := k2; exact DataW.trod_lt m _ _ _ hm
  obtain ⟨a2, ok2, s2⟩ := Ax.arg_int Tryd.underlying3 (hval 2 3 v2 rfl rfl) h2
  clear hA0 hval0
  refine (Ax.law_walk (w := W) (Ax.dom_any W) (Ax.sqltells_c a0 a1 a2 ok1) (by simp) (.cons s0 (.cons s1 (.cons s2 .nil)))).mono fun e W' ⟨he, bel⟩ => ?_
  subst he
  exact ⟨_, rfl, _, _, _, [], _, [], hW', trodAll_mk1 (shut_bool Tryd.underlying4 _), (trodAll_cons_mk (Below.trod laidOut (by kernel_rfl) (of_decide_eq_true (by kernel_rfl)) k0 bel lt0) (trodAll_cons_mk (Below.trod laidOut (by kernel_rfl) (of_decide_eq_true (by kernel_rfl)) k1 bel lt1) (trodAll_cons_mk (Below.trod laidOut (by kernel_rfl) (of_decide_eq_true (by kernel_rfl)) k2 bel lt2) trodAll_mk0))), rfl, bel.frame _, fun h => by cases h⟩

theorem over : Rows.sqlTellsRow.holds Tryd.pinned (OpenSpec.ofChange Rows.sqlTellsSpec) :=
  OpenClaim.holds_of_wide 3 Tryd.f3 rfl rfl rfl rfl rfl rfl rfl ⟨rfl, rfl, rfl, rfl, rfl⟩ rfl rfl rfl rfl rfl (by kernel_rfl) Tryd.func3 (by kernel_rfl)
    (of_decide_eq_true (by kernel_rfl)) (by unfold Func.isWrapper; first | (rw [if_pos (by decide +kernel)]; kernel_rfl) | (rw [if_neg (by decide +kernel)]; exact ⟨rfl, rfl⟩))
    (fun os started H enc _ => lifted os started H enc)

theorem proved : Rows.SqlTellsCardSaid :=
  Claim7.holds_tied_plain_at .later [] [.data, .pinned] true (true, "4bad6c3569888bc7e5edeff2f0d927aa0e409919f228b8d712a2963c3b010752") false over (fun _ h => by cases h) (by kernel_rfl) (fun _ h => by cases h) sqlTells_row_tie rfl ⟨rfl, rfl⟩ (by kernel_rfl) rfl
    (fun f fn hf hfn => by
      obtain rfl : f = 3 := Option.some.inj ((show Tryd.prog.funcNamed "remuda/remudalaw26.SqlTells" = some 3 by kernel_rfl).symm.trans hf) |>.symm
      obtain rfl : fn = Tryd.f3 := (Option.some.inj (Tryd.func3.symm.trans hfn)).symm
      exact ⟨by kernel_rfl, fun j t ht => by
        rw [Tryd.params3] at ht
        have hm : t ∈ [9, 23, 3] := by simpa using Array.mem_of_getElem? ht
        have hall : ([9, 23, 3].all fun u => !Tryd.prog.wantsStandIn u) = true := by kernel_rfl
        exact (show Tryd.prog.wantsStandIn t = false by simpa using List.all_eq_true.1 hall t hm)⟩)
    (by kernel_rfl)
#print axioms proved
end Go.Proofs.YthielckgianmgaaDoor.sqlTells
