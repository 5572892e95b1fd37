/- An engine that no call made tells nothing. -/
import Derived.Test.YtmdapcmdlblnnaaDoorQAxXr
import Derived.Test.YtmdapcmdlblnnaaDoorQAxSv
import Derived.Test.YtmdapcmdlblnnaaDoorQAxGd
import Derived.Test.YtmdapcmdlblnnaaDoorRows
import Derived.Test.YtmdapcmdlblnnaaDoorCards
import Derived.Test.YtmdapcmdlblnnaaDoorTie
import Derived.Test.YtmdapcmdlblnnaaDoorQElems
import Derived.WalkKit
import Derived.ProofKit
import Derived.OpenShut
import Derived.ShutString
import Derived.ChangeOld
import Derived.Below
import Derived.LaidMore
import Derived.Lay
import Derived.SevenTiedAt
import Derived.Stop.Joined
/- Arguments within the form's reach: slices by their bytes; cells. -/
namespace Go.Proofs.YtmdapcmdlblnnaaDoor.Ax
open Go.RowKit Go.Deep Go.ChangeShapes Go.WideShapes Go.ChangeAt Go.Joins Go By
set_option linter.unusedSimpArgs false
set_option linter.unusedVariables false

section
variable {P : Program} {t : TypeId}
end
end Go.Proofs.YtmdapcmdlblnnaaDoor.Ax
/- Layer 27's statements. -/
namespace Go.Proofs.YtmdapcmdlblnnaaDoor.Ax
open Go.RowKit Go By Dg
set_option linter.unusedSimpArgs false
set_option linter.unusedVariables false
set_option maxRecDepth 10000

/-- A call. -/
structure De where
  op : Int
  text : List UInt8
  st : Int
  v : Vb
  ps : List Cl
def deC (d : De) : List AV := [.v (.int .i64 d.op), .v (.string (strB d.text)), .v (.int .u8 d.st), .v (.int .i64 d.v.kind), .v (.int .i64 d.v.n), .v (.string (strB d.v.code)), .sl 2 (enc cellC d.ps) none .no]
@[simp] theorem deC_len (d : De) : (deC d).length = 7 := of_eq_true (eq_self _)
@[simp] theorem deC_unown (d : De) : (deC d).map AV.unown = deC d := of_eq_true (eq_self _)
@[simp] theorem deC_take (d : De) : List.take 7 (deC d) = deC d := of_eq_true (eq_self _)
@[simp] theorem deC_0 (d : De) : (deC d)[0]? = some (.v (.int .i64 d.op)) := of_eq_true (eq_self _)
@[simp] theorem deC_1 (d : De) : (deC d)[1]? = some (.v (.string (strB d.text))) := of_eq_true (eq_self _)
@[simp] theorem deC_2 (d : De) : (deC d)[2]? = some (.v (.int .u8 d.st)) := of_eq_true (eq_self _)
@[simp] theorem deC_6 (d : De) : (deC d)[6]? = some (.sl 2 (enc cellC d.ps) none .no) := of_eq_true (eq_self _)
@[simp] theorem deC_g0 (d : De) (h : 0 < (deC d).length) : (deC d)[0] = .v (.int .i64 d.op) := of_eq_true (eq_self _)
@[simp] theorem deC_g1 (d : De) (h : 1 < (deC d).length) : (deC d)[1] = .v (.string (strB d.text)) := of_eq_true (eq_self _)
@[simp] theorem deC_g2 (d : De) (h : 2 < (deC d).length) : (deC d)[2] = .v (.int .u8 d.st) := of_eq_true (eq_self _)
@[simp] theorem deC_g6 (d : De) (h : 6 < (deC d).length) : (deC d)[6] = .sl 2 (enc cellC d.ps) none .no := of_eq_true (eq_self _)
@[simp] theorem deC_verb (d : De) : List.take 3 (List.drop 3 (deC d)) = vbC d.v := of_eq_true (eq_self _)
/-! ### Nobody's -/
theorem nmade_c (h : List (List AV)) : Contract Tryd.prog 21 [.v (.pointer none)] h (.v (.bool false)) h [] := by
  refine contract_of k21 mixed (by simp [c21]) fun hh hargs => ?_
  simp [c21, hh]
theorem zmade_c {h : List (List AV)} {i : Nat} {x : AV} (hz : h[i]? = some [.v (.map none), x]) : Contract Tryd.prog 21 [.box i 0] h (.v (.bool false)) h [] := by
  refine contract_of k21 mixed (by simp [c21]) fun hh hargs => ?_
  simp [c21, hz, hh]
section
variable {h : List (List AV)} {p : AV}
theorem xverdict_c (hid : p.idOf = none) (hm : ∀ xs, Contract Tryd.prog 21 [p] (h ++ xs) (.v (.bool false)) (h ++ xs) []) (s : List UInt8) (hs : s.length ≤ 9223372036854775807) (st : Int) : Contract Tryd.prog 15 [p, .v (.string (strB s)), .v (.int .u8 st)] h (vdV ⟨[], [], false⟩) h [] := by
  refine contract_of k15 mixed (by simp [c15]) fun hh hargs => ?_
  simp [c15, hid]
  refine xcall_self (by simp) (qparse_c s hs _) ?_
  generalize sayQ (trimL s) = v
  simp [hid]
  refine xcall_self (by simpa using hid) (hm [vbC v]) ?_
  simp [hh, vdV, leqH_take, hid]
theorem xturn_c (hid : p.idOf = none) (hm : Contract Tryd.prog 21 [p] h (.v (.bool false)) h []) (s : List UInt8) : Contract Tryd.prog 8 [p, .v (.string (strB s))] h (.v (.bool false)) h [] := by
  refine contract_of k8 mixed (by simp [c8]) fun hh hargs => ?_
  simp [c8, hid]
  refine xcall_self (by simpa using hid) hm ?_
  simp [hh]
theorem xnextE_c (hid : p.idOf = none) (hm : Contract Tryd.prog 21 [p] h (.v (.bool false)) h []) : Contract Tryd.prog 10 [p] h (.v (.int .i64 0)) h [] := by
  refine contract_of k10 mixed (by simp [c10]) fun hh hargs => ?_
  simp [c10, hid]
  refine xcall_self (by simpa using hid) hm ?_
  simp [hh]
theorem xcountE_c (hid : p.idOf = none) (hm : Contract Tryd.prog 21 [p] h (.v (.bool false)) h []) : Contract Tryd.prog 17 [p] h (.v (.int .i64 0)) h [] := by
  refine contract_of k17 mixed (by simp [c17]) fun hh hargs => ?_
  simp [c17, hid]
  refine xcall_self (by simpa using hid) hm ?_
  simp [hh]
theorem xrowsE_c (hid : p.idOf = none) (hm : ∀ xs, Contract Tryd.prog 21 [p] (h ++ xs) (.v (.bool false)) (h ++ xs) []) (v : Vb) : Contract Tryd.prog 13 [p, .agg (vbC v), .sl 2 [] none .no] h (.sl 1 [] none .no) h [] := by
  refine contract_of k13 mixed (by simp [c13]) fun hh hargs => ?_
  simp [c13, hid]
  refine xcall_self (by simpa using hid) (hm [vbC v]) ?_
  simp [hh, leqH_take]
end
theorem enobody_c (s : List UInt8) (st : Int) (v : Vb) (hs : s.length ≤ maxLen) : Contract Tryd.prog 6 [.v (.string (strB s)), .v (.int .u8 st), .agg (vbC v)] [] (.v (.bool true)) [] [] := by
  have hs2 : s.length ≤ 9223372036854775807 := by simpa [maxLen] using hs
  refine contract_of k6 mixed (by simp [c6]) fun hh hargs => ?_
  have hz : ∀ xs, Contract Tryd.prog 21 [.box 1 0] ([vbC v, [.v (.map none), .v (.int .i64 0)]] ++ xs) (.v (.bool false)) ([vbC v, [.v (.map none), .v (.int .i64 0)]] ++ xs) [] := fun xs => zmade_c (x := .v (.int .i64 0)) rfl
  have hz0 := hz []
  rw [List.append_nil] at hz0
  have hn0 := nmade_c [vbC v, [.v (.map none), .v (.int .i64 0)]]
  have r1 := xverdict_c (h := [vbC v, [.v (.map none), .v (.int .i64 0)]]) (p := .v (.pointer none)) rfl (fun xs => nmade_c _) s hs2 st
  have r2 := xverdict_c (h := [vbC v, [.v (.map none), .v (.int .i64 0)]]) (p := .box 1 0) rfl hz s hs2 st
  simp [c6]
  refine xcall_self (by simp) r1 ?_
  simp [vdV]
  refine xcall_self (by simp) r2 ?_
  simp [vdV]
  refine xcall_self (by simp) (xturn_c rfl hn0 s) ?_
  simp
  refine xcall_self (by simp) (xturn_c rfl hz0 s) ?_
  simp
  refine xcall_self (by simp) (xnextE_c rfl hn0) ?_
  simp
  refine xcall_self (by simp) (xcountE_c rfl hz0) ?_
  simp
  refine xcall_of (xrowsE_c (h := [vbC v, [.v (.map none), .v (.int .i64 0)]]) (p := .v (.pointer none)) rfl (fun xs => nmade_c _) v) (by simp) (by simp) ?_
  simp
  refine xcall_of (xrowsE_c (h := [vbC v, [.v (.map none), .v (.int .i64 0)]]) (p := .box 1 0) rfl hz v) (by simp) (by simp) ?_
  simp
  refine xcall_self (by simp) (eawake_c _) ?_
  simp
end Go.Proofs.YtmdapcmdlblnnaaDoor.Ax
namespace Go.Proofs.YtmdapcmdlblnnaaDoor.engineNobody
open Go.ChangeShapes Go.WideShapes Go.ChangeAt Go.RowKit
open Go.ChangeMaps (open_string shut_string)
set_option linter.unusedVariables false

theorem own : ownKnob Tryd.prog.godebug = none := by kernel_rfl
theorem laidOut : laidOutB Tryd.prog = true := by kernel_rfl

set_option maxRecDepth 100000 in
theorem lifted (os : Os) (started : os.Started) (H : Type) (enc : TypeId × Value → H) :
    ReturnsInHanded {} Tryd.checked os 6 .any (fun w args => (Rows.engineNobodySpec.pre enc Tryd.prog Tryd.f6 Rows.engineNobodyRow.domain false w args ∧ laidMetH Tryd.prog Rows.engineNobodyRow.laid w) ∧ sizedMet enc Tryd.prog Tryd.f6 (OpenSpec.ofChange Rows.engineNobodySpec) false w args) (Rows.engineNobodySpec.post enc Tryd.prog Tryd.f6 false true false false) := by
  refine returnsInHanded_of_change_and (C := Tryd.checked) (X := fun w _ => laidMetH Tryd.prog Rows.engineNobodyRow.laid w) (fun _ _ _ hh h => h.of_heap hh) own started (by kernel_rfl) Tryd.func6
    (ChangeSpec.witness_shaped (enc := enc) (C := Tryd.checked) (os := os) (X := fun w _ => laidMetH Tryd.prog Rows.engineNobodyRow.laid w) false (World.laidAll Tryd.prog os Rows.engineNobodyRow.laid) #[.string ByteArray.empty, .int .u8 0, .agg #[.int .i64 0, .int .i64 0, .string ByteArray.empty]] 8 (World.laidAll_os _ _ _)
      (World.shaped_of_ZipB (by kernel_rfl) (by kernel_rfl)) (by kernel_rfl) (by kernel_rfl) (by kernel_rfl)
      (by rw [MakeChecks.laidMetH_plain _ _ _ (by kernel_rfl)]; exact laidMet_laidAll _ (by kernel_rfl) (by kernel_rfl))) ?_
  intro W base args ds gs before hval0 hW hcnd hreach hL _
  have hval : ∀ (j : Nat) t v, Tryd.f6.params[j]? = some t → args[j]? = some v → Value.okWide Tryd.prog W .any base t v := hval0
  have hW' := hW
  obtain ⟨p, q, hA0, hV, rfl, hfz, hnd⟩ := hW
  have hA : DataW.TrodAll enc Tryd.prog W 0 (fun _ => true) true Tryd.f6.params.toList args.toList ds p := hA0
  rw [Tryd.params6] at hA hval
  obtain ⟨v0, vs0, d0, ds0, p0, q0, hargs, rfl, rfl, h0, r0⟩ := trodAll_cons hA
  obtain ⟨v1, vs1, d1, ds1, p1, q1, rfl, rfl, rfl, h1, r1⟩ := trodAll_cons r0
  obtain ⟨v2, vs2, d2, ds2, p2, q2, rfl, rfl, rfl, h2, r2⟩ := trodAll_cons r1
  obtain ⟨rfl, rfl, rfl⟩ := trodAll_nil r2
  obtain rfl : args = #[v0, v1, v2] := by cases args; simp_all
  obtain ⟨rfl, rfl⟩ := trodVars_none hV
  have k0 := h0
  have lt0 : ∀ x ∈ p0, x.block < W.heap.size := by obtain ⟨m, hm⟩ := k0; exact DataW.trod_lt m _ _ _ hm
  obtain ⟨a0, ok0, s0⟩ := Ax.arg_str Tryd.underlying9 (hval 0 9 v0 rfl rfl) h0
  have k1 := h1
  have lt1 : ∀ x ∈ p1, x.block < W.heap.size := by obtain ⟨m, hm⟩ := k1; exact DataW.trod_lt m _ _ _ hm
  obtain ⟨a1, ok1, s1⟩ := Ax.arg_int Tryd.underlying5 (hval 1 5 v1 rfl rfl) h1
  have k2 := h2
  have lt2 : ∀ x ∈ p2, x.block < W.heap.size := by obtain ⟨m, hm⟩ := k2; exact DataW.trod_lt m _ _ _ hm
  obtain ⟨a2, ok2, s2⟩ := Ax.arg_struct Tryd.underlying30 Ax.sh_vbC (hval 2 30 v2 rfl rfl) h2
  clear hA0 hval0 hreach
  refine (Ax.law_walk (w := W) (Ax.dom_any W) (Ax.enobody_c a0 a1 a2 ok0) (by simp) (.cons s0 (.cons s1 (.cons s2 .nil)))).mono fun e W' ⟨he, bel⟩ => ?_
  subst he
  exact ⟨_, rfl, _, _, _, [], _, [], hW', trodAll_mk1 (shut_bool Tryd.underlying4 _), (trodAll_cons_mk (Below.trod laidOut (by kernel_rfl) (of_decide_eq_true (by kernel_rfl)) k0 bel lt0) (trodAll_cons_mk (Below.trod laidOut (by kernel_rfl) (of_decide_eq_true (by kernel_rfl)) k1 bel lt1) (trodAll_cons_mk (Below.trod laidOut (by kernel_rfl) (of_decide_eq_true (by kernel_rfl)) k2 bel lt2) trodAll_mk0))), rfl, bel.frame _, fun h => by cases h⟩

theorem over : Rows.engineNobodyRow.holds Tryd.pinned (OpenSpec.ofChange Rows.engineNobodySpec) :=
  OpenClaim.holds_of_wide 6 Tryd.f6 rfl rfl rfl rfl rfl rfl rfl ⟨rfl, rfl, rfl, rfl, rfl⟩ rfl rfl rfl rfl rfl (by kernel_rfl) Tryd.func6 (by kernel_rfl)
    (of_decide_eq_true (by kernel_rfl)) (by unfold Func.isWrapper; first | (rw [if_pos (by decide +kernel)]; kernel_rfl) | (rw [if_neg (by decide +kernel)]; exact ⟨rfl, rfl⟩))
    (fun os started H enc _ => lifted os started H enc)

theorem proved : Rows.EngineNobodyCardSaid :=
  Claim7.holds_tied_plain_at .later [] [.data, .pinned] true (true, "7d7c5906035f1852b68263b4beb5a7323e5046a3de23efaf4599aa5752d04a74") false over (fun _ h => by cases h) (by kernel_rfl) (fun _ h => by cases h) engineNobody_row_tie rfl ⟨rfl, rfl⟩ (by kernel_rfl) rfl
    (fun f fn hf hfn => by
      obtain rfl : f = 6 := Option.some.inj ((show Tryd.prog.funcNamed "remuda/remudalaw27.EngineNobody" = some 6 by kernel_rfl).symm.trans hf) |>.symm
      obtain rfl : fn = Tryd.f6 := (Option.some.inj (Tryd.func6.symm.trans hfn)).symm
      exact ⟨by kernel_rfl, fun j t ht => by
        rw [Tryd.params6] at ht
        have hm : t ∈ [9, 5, 30] := by simpa using Array.mem_of_getElem? ht
        have hall : ([9, 5, 30].all fun u => !Tryd.prog.wantsStandIn u) = true := by kernel_rfl
        exact (show Tryd.prog.wantsStandIn t = false by simpa using List.all_eq_true.1 hall t hm)⟩)
    (by kernel_rfl)
#print axioms proved
end Go.Proofs.YtmdapcmdlblnnaaDoor.engineNobody
