/- A session that no call made, or of no engine, says nothing. -/
import Derived.Test.YtknohkmpficjgaaGreatDoorQAxXr
import Derived.Test.YtknohkmpficjgaaGreatDoorQAxSv
import Derived.Test.YtknohkmpficjgaaGreatDoorQAxSf
import Derived.Test.YtknohkmpficjgaaGreatDoorRows
import Derived.Test.YtknohkmpficjgaaGreatDoorCards
import Derived.Test.YtknohkmpficjgaaGreatDoorTie
import Derived.Test.YtknohkmpficjgaaGreatDoorQElems
import Derived.WalkKit
import Derived.ProofKit
import Derived.OpenShut
import Derived.ShutString
import Derived.ChangeOld
import Derived.Below
import Derived.LaidMore
import Derived.LaidHandle
import Derived.LaidSub
import Derived.LaidLaws
import Derived.Lay
import Derived.SevenTiedAt
import Derived.Stop.Joined
/- Arguments within the form's reach: slices by their bytes; cells. -/
namespace Go.Proofs.YtknohkmpficjgaaGreatDoor.Ax
open Go.RowKit Go.Deep Go.ChangeShapes Go.WideShapes Go.ChangeAt Go.Joins Go By
set_option linter.unusedSimpArgs false
set_option linter.unusedVariables false

section
variable {P : Program} {t : TypeId}
end
end Go.Proofs.YtknohkmpficjgaaGreatDoor.Ax
/- Layer 30's statements: nobody's sessions; what is skipped. -/
namespace Go.Proofs.YtknohkmpficjgaaGreatDoor.Ax
open Go.RowKit Go By YtknohkmpficjgaaGreatDoor.Nm Dg
set_option linter.unusedSimpArgs false
set_option linter.unusedVariables false
set_option maxRecDepth 10000

/-! ### Nobody's -/
section
variable {h : List (List AV)} {i : Nat}
theorem nlistens_c (k : Int) (h : List (List AV)) : Contract Tryz.prog 22 [.v (.pointer none), .v (.int .u8 k)] h (.v (.bool false)) h [] := by
  refine contract_of k22 mixed (by simp [c22]) fun hh hargs => ?_
  simp [c22, hh]
theorem zlistens_c {l : List AV} (hz : h[i]? = some (.v (.pointer none) :: l)) (k : Int) : Contract Tryz.prog 22 [.box i 0, .v (.int .u8 k)] h (.v (.bool false)) h [] := by
  refine contract_of k22 mixed (by simp [c22]) fun hh hargs => ?_
  simp [c22, hz, hh]
theorem xdo_c {p : AV} (hid : p.idOf = none) (f : Fm) (kl : Contract Tryz.prog 22 [p, .v (.int .u8 f.kind)] (h ++ [fmC f]) (.v (.bool false)) (h ++ [fmC f]) []) : Contract Tryz.prog 10 [p, .agg (fmC f)] h (.sl 11 [] none .no) h [] := by
  refine contract_of k10 mixed (by simp [c10]) fun hh hargs => ?_
  simp [c10, hid]
  refine xcall_self (by simpa using hid) kl ?_
  simp [hh, leqH_take]
theorem nskips_c (h : List (List AV)) : Contract Tryz.prog 11 [.v (.pointer none)] h (.v (.bool false)) h [] := by
  refine contract_of k11 mixed (by simp [c11]) fun hh hargs => ?_
  simp [c11, hh]
theorem nover_c (h : List (List AV)) : Contract Tryz.prog 12 [.v (.pointer none)] h (.v (.bool false)) h [] := by
  refine contract_of k12 mixed (by simp [c12]) fun hh hargs => ?_
  simp [c12, hh]
theorem snnames_c (h : List (List AV)) : Contract Tryz.prog 13 [.v (.pointer none)] h (.sl 1 [] none .no) h [] := by
  refine contract_of k13 mixed (by simp [c13]) fun hh hargs => ?_
  simp [c13, hh]
end
set_option maxHeartbeats 1000000 in
theorem snobody_c (f : Fm) : Contract Tryz.prog 5 [.agg (fmC f)] [] (.v (.bool true)) [] [] := by
  refine contract_of k5 mixed (by simp [c5]) fun hh hargs => ?_
  have kn := snew_c (.v (.pointer none)) rfl rfl rfl [fmC f, [.v (.pointer none), .v (.map none), .v (.pointer none), .v (.int .u8 0), .v (.bool false), .v (.bool false)]] (by simp)
  simp only [List.length_cons, List.length_nil, List.cons_append, List.nil_append] at kn
  obtain ⟨H, hH⟩ : ∃ H, H = [fmC f, [.v (.pointer none), .v (.map none), .v (.pointer none), .v (.int .u8 0), .v (.bool false), .v (.bool false)], mapC 0 [], mapC 0 [], [.mp 3 1 true], [AV.v (.pointer none), .mp 2 2 false, .box 4 0, .v (.int .u8 73), .v (.bool false), .v (.bool false)]] := ⟨_, rfl⟩
  have hp : plainH H := by
    rw [hH]
    intro cs hcs
    simp [fmC_mk, mapC] at hcs
    rcases hcs with rfl | rfl | rfl | rfl | rfl <;> simp
  have d1 := xdo_c (h := H) (p := .v (.pointer none)) rfl f (nlistens_c _ _)
  have d2 := xdo_c (h := H) (p := .box 1 0) rfl f (zlistens_c (by rw [hH]; rfl) _)
  have d3 := xdo_c (h := H) (p := .box 5 0) rfl f (zlistens_c (by rw [hH]; rfl) _)
  have o1 := sover_c (h := H) (i := 1) (b := false) (by rw [hH]; rfl)
  have n1 := snames_c (h := H) (i := 5) (a := 2) (clock := 0) (l := []) (by rw [hH]; rfl) (by rw [hH]; rfl) ⟨List.nodup_nil, List.nodup_nil, fun x hx => by cases hx⟩ (by simp) hp
  have hnm : namesK [] = [] := by unfold namesK sortS; simp
  rw [hnm] at n1
  simp [c5]
  refine xcall_self (by simp) kn ?_
  have h0 : H[0]? = some (fmC f) := by rw [hH]; rfl
  simp [← hH, h0]
  refine xcall_self (by simp) d1 ?_
  simp [h0]
  refine xcall_self (by simp) d2 ?_
  simp [h0]
  refine xcall_self (by simp) d3 ?_
  simp
  refine xcall_self (by simp) (nskips_c _) ?_
  simp
  refine xcall_self (by simp) (nover_c _) ?_
  simp
  refine xcall_self (by simp) o1 ?_
  simp
  refine xcall_self (by simp) (snnames_c _) ?_
  simp
  refine xcall_self (by simp) n1 ?_
  simp
  refine xcall_self (by simp) (sawake_c _ hp) ?_
  simp
/-! ### Messages that are few and short -/
end Go.Proofs.YtknohkmpficjgaaGreatDoor.Ax
namespace Go.Proofs.YtknohkmpficjgaaGreatDoor.sessNobody
open Go.ChangeShapes Go.WideShapes Go.ChangeAt Go.RowKit
open Go.ChangeMaps (open_string shut_string)
set_option linter.unusedVariables false

theorem own : ownKnob Tryz.prog.godebug = none := by kernel_rfl
theorem laidOut : laidOutB Tryz.prog = true := by kernel_rfl

theorem et : Tryz.prog.globalNamed "errors.errorType" = some 0 := by kernel_rfl
theorem rt : (Tryz.prog.cutTypes.find? (·.1 == "internal/reflectlite.rtype")).map (·.2) = some 211 := by kernel_rfl
theorem oneRow : ((List.range 304).filter fun t => Tryz.prog.rowNamed t [101, 114, 114, 111, 114]) = [66] := by kernel_rfl
theorem size : Tryz.prog.types.size = 304 := by kernel_rfl
theorem dom (W : World) (h : laidMetH Tryz.prog Rows.sessNobodyRow.laid W) : Ax.Dom W := by
  obtain ⟨name, u, ty, e1, e2, e3, e4, e5⟩ := (laidMetH_iff.1 h).2 ("errors.errorType", Rows.laid_errors_errorType) (List.mem_filter.2 ⟨by simp [Rows.sessNobodyRow], by kernel_rfl⟩)
  have en : name = [101, 114, 114, 111, 114] := (Option.some.inj e1).symm
  subst en
  obtain rfl := Option.some.inj (rt.symm.trans e2)
  have hm : ty ∈ (List.range 304).filter fun t => Tryz.prog.rowNamed t [101, 114, 114, 111, 114] := List.mem_filter.2 ⟨List.mem_range.2 (by rw [← size]; exact e3), e4⟩
  rw [oneRow] at hm
  obtain rfl := List.mem_singleton.1 hm
  have := World.var?_cell et e5 0
  unfold Ax.Dom
  simpa using this
def data : List (String × DataW Unit) := Rows.sessNobodyRow.laid.filter fun x => x.2.handleName?.isNone
/-- A world that meets the condition: the listed tables are laid, and the handle. -/
noncomputable def laidWorld (os : Os) : World :=
  { World.laidAll Tryz.prog os data with heap := (World.laidAll Tryz.prog os data).heap.modify 0 fun
      | .cells _ t frozen => .cells #[.iface 211 (.agg #[.pointer (some ⟨4, 66, none⟩)])] t frozen
      | o => o }
set_option maxRecDepth 100000 in
theorem laidWorld_met (os : Os) (args : Array Value) : laidMetH Tryz.prog Rows.sessNobodyRow.laid ((laidWorld os).forCall (fun _ _ => 0) ⟨#[], args, []⟩).memory :=
  laidMetH_of_parts (laidMet_of_run' 300 (by kernel_rfl) (by kernel_rfl)) (by kernel_rfl)

set_option maxRecDepth 100000 in
theorem lifted (os : Os) (started : os.Started) (H : Type) (enc : TypeId × Value → H) :
    ReturnsInHanded {} Tryz.checked os 5 .any (fun w args => (Rows.sessNobodySpec.pre enc Tryz.prog Tryz.f5 Rows.sessNobodyRow.domain false w args ∧ laidMetH Tryz.prog Rows.sessNobodyRow.laid w) ∧ sizedMet enc Tryz.prog Tryz.f5 (OpenSpec.ofChange Rows.sessNobodySpec) false w args) (Rows.sessNobodySpec.post enc Tryz.prog Tryz.f5 false true false false) := by
  refine returnsInHanded_of_change_and (C := Tryz.checked) (X := fun w _ => laidMetH Tryz.prog Rows.sessNobodyRow.laid w) (fun _ _ _ hh h => h.of_heap hh) own started (by kernel_rfl) Tryz.func5
    (ChangeSpec.witness_shaped (enc := enc) (C := Tryz.checked) (os := os) (X := fun w _ => laidMetH Tryz.prog Rows.sessNobodyRow.laid w) false (laidWorld os) #[.agg #[.int .u8 0, .int .u8 0, .string ByteArray.empty, .string ByteArray.empty, .string ByteArray.empty, .slice none 0 0, .slice none 0 0, .slice none 0 0, .slice none 0 0, .int .i64 0]] 8 (World.laidAll_os _ _ _)
      (by first | exact World.shaped_of_ZipB (by kernel_rfl) (by kernel_rfl) | exact World.shaped_of_RefB (by kernel_rfl) (by kernel_rfl)) (by kernel_rfl) (by kernel_rfl) (by kernel_rfl) (laidWorld_met os _)) ?_
  intro W base args ds gs before hval0 hW hcnd hreach hL _
  have hval : ∀ (j : Nat) t v, Tryz.f5.params[j]? = some t → args[j]? = some v → Value.okWide Tryz.prog W .any base t v := hval0
  have hW' := hW
  obtain ⟨p, q, hA0, hV, rfl, hfz, hnd⟩ := hW
  have hA : DataW.TrodAll enc Tryz.prog W 0 (fun _ => true) true Tryz.f5.params.toList args.toList ds p := hA0
  rw [Tryz.params5] at hA hval
  obtain ⟨v0, vs0, d0, ds0, p0, q0, hargs, rfl, rfl, h0, r0⟩ := trodAll_cons hA
  obtain ⟨rfl, rfl, rfl⟩ := trodAll_nil r0
  obtain rfl : args = #[v0] := by cases args; simp_all
  obtain ⟨rfl, rfl⟩ := trodVars_none hV
  have k0 := h0
  have lt0 : ∀ x ∈ p0, x.block < W.heap.size := by obtain ⟨m, hm⟩ := k0; exact DataW.trod_lt m _ _ _ hm
  obtain ⟨a0, ok0, s0⟩ := Ax.arg_struct Tryz.underlying32 Ax.sh_fmC (hval 0 32 v0 rfl rfl) h0
  clear hA0 hval0 hreach
  refine (Ax.law_walk (w := W) (dom W hL) (Ax.snobody_c a0) (by simp) (.cons s0 .nil)).mono fun e W' ⟨he, bel⟩ => ?_
  subst he
  exact ⟨_, rfl, _, _, _, [], _, [], hW', trodAll_mk1 (shut_bool Tryz.underlying4 _), (trodAll_cons_mk (Below.trod laidOut (by kernel_rfl) (of_decide_eq_true (by kernel_rfl)) k0 bel lt0) trodAll_mk0), rfl, bel.frame _, fun h => by cases h⟩

theorem over : Rows.sessNobodyRow.holds Tryz.pinned (OpenSpec.ofChange Rows.sessNobodySpec) :=
  OpenClaim.holds_of_wide 5 Tryz.f5 rfl rfl rfl rfl rfl rfl rfl ⟨rfl, rfl, rfl, rfl, rfl⟩ rfl rfl rfl rfl rfl (by kernel_rfl) Tryz.func5 (by kernel_rfl)
    (of_decide_eq_true (by kernel_rfl)) (by unfold Func.isWrapper; first | (rw [if_pos (by decide +kernel)]; kernel_rfl) | (rw [if_neg (by decide +kernel)]; exact ⟨rfl, rfl⟩))
    (fun os started H enc _ => lifted os started H enc)

theorem proved : Rows.SessNobodyCardSaid :=
  Claim7.holds_tied_plain_at .later [] [.data, .handle, .pinned] true (true, "7c2996b83169c07b8443652d1372eeed5fc8b65bc769881be6ac719c615e99a3") true over (fun _ h => by cases h) (by kernel_rfl) (fun _ h => by cases h) sessNobody_row_tie rfl ⟨rfl, rfl⟩ (by kernel_rfl) rfl
    (fun f fn hf hfn => by
      obtain rfl : f = 5 := Option.some.inj ((show Tryz.prog.funcNamed "remuda/remudalaw30.SessNobody" = some 5 by kernel_rfl).symm.trans hf) |>.symm
      obtain rfl : fn = Tryz.f5 := (Option.some.inj (Tryz.func5.symm.trans hfn)).symm
      exact ⟨by kernel_rfl, fun j t ht => by
        rw [Tryz.params5] at ht
        have hm : t ∈ [32] := by simpa using Array.mem_of_getElem? ht
        have hall : ([32].all fun u => !Tryz.prog.wantsStandIn u) = true := by kernel_rfl
        exact (show Tryz.prog.wantsStandIn t = false by simpa using List.all_eq_true.1 hall t hm)⟩)
    (by kernel_rfl)
#print axioms proved
end Go.Proofs.YtknohkmpficjgaaGreatDoor.sessNobody
