/- Nobody waits where no call made anything, whatever the number. -/
import Derived.Test.YtlbgjlmokpkkeaaQAxX
import Derived.Test.YtlbgjlmokpkkeaaRows
import Derived.Test.YtlbgjlmokpkkeaaQAxIl
import Derived.Test.YtlbgjlmokpkkeaaQAxIj
import Derived.Test.YtlbgjlmokpkkeaaQElems
import Derived.WalkKit
import Derived.ProofKit
import Derived.OpenShut
import Derived.ShutString
import Derived.ChangeOld
import Derived.Below
/- The texts of functions over values without memory, as the kernel reckons them out of the program. -/
namespace Go.Proofs.Ytlbgjlmokpkkeaa.Ax
open Go.RowKit Go By

end Go.Proofs.Ytlbgjlmokpkkeaa.Ax
/- Layer 32 over values without memory: List; fifos that no call made; the document's. -/
namespace Go.Proofs.Ytlbgjlmokpkkeaa.Ax
open Go.RowKit Go By
set_option linter.unusedSimpArgs false
set_option linter.unusedVariables false
set_option maxRecDepth 10000

section
variable {h : List (List AV)} {i : Nat} {F : Ff}
end
/-! ### Nobody's -/
section
variable {h : List (List AV)} {i : Nat} {p : AV}
theorem nwait_c (h : List (List AV)) : Contract Try.prog 19 [.v (.pointer none)] h (.v (.map none)) h [] := by
  refine contract_of k19 mixedFo (by simp [c19]) fun hh hargs => ?_
  simp [c19, hh]
theorem zwait_c {l : List AV} (hz : h[i]? = some (.v (.map none) :: l)) : Contract Try.prog 19 [.box i 0] h (.v (.map none)) h [] := by
  refine contract_of k19 mixedFo (by simp [c19]) fun hh hargs => ?_
  simp [c19, hz, hh]
theorem fpush_n (hid : p.idOf = none) (kw : Contract Try.prog 19 [p] h (.v (.map none)) h []) (n : Int) : Contract Try.prog 7 [p, .v (.int .i64 n)] h (.v (.bool false)) h [] := by
  refine contract_of k7 mixedFo (by simp [c7]) fun hh hargs => ?_
  simp [c7, hid]
  refine xcall_self (by simpa using hid) kw ?_
  simp [hh]
theorem fremove_n (hid : p.idOf = none) (kw : Contract Try.prog 19 [p] h (.v (.map none)) h []) (n : Int) : Contract Try.prog 11 [p, .v (.int .i64 n)] h (.v (.bool false)) h [] := by
  refine contract_of k11 mixedFo (by simp [c11]) fun hh hargs => ?_
  simp [c11, hid]
  refine xcall_self (by simpa using hid) kw ?_
  simp [hh]
theorem flen_n (hid : p.idOf = none) (kw : Contract Try.prog 19 [p] h (.v (.map none)) h []) : Contract Try.prog 15 [p] h (.v (.int .i64 0)) h [] := by
  refine contract_of k15 mixedFo (by simp [c15]) fun hh hargs => ?_
  simp [c15, hid]
  refine xcall_self (by simpa using hid) kw ?_
  simp [hh]
theorem fhead_n (hid : p.idOf = none) (kw : Contract Try.prog 19 [p] h (.v (.map none)) h []) : Contract Try.prog 13 [p] h (.tup [.v (.int .i64 0), .v (.bool false)]) h [] := by
  refine contract_of k13 mixedFo (by simp [c13]) fun hh hargs => ?_
  have hl1 := ltLL_mono (Nat.le_add_right h.length 1) hh
  simp [c13, hid]
  refine xcall_self (by simpa using hid) kw ?_
  simp
  refine xloop_ok (D := Nat) (fun _ => ⟨[(5, .v (.int .i64 0)), (6, .v (.bool false)), (12, .itr h.length none 1 true)], [], h ++ [itC 0 0 []], []⟩) (fun _ => True) (fun _ => 0) 0 trivial ?_ ?_
  · simp [Leq, hh, leqH_take, itC, hl1]
  · intro _ _
    simp [hh, leqH_take]
theorem fpop_n (hid : p.idOf = none) (kw : Contract Try.prog 19 [p] h (.v (.map none)) h []) : Contract Try.prog 9 [p] h (.tup [.v (.int .i64 0), .v (.bool false)]) h [] := by
  refine contract_of k9 mixedFo (by simp [c9]) fun hh hargs => ?_
  simp [c9, hid]
  refine xcall_self (by simpa using hid) (fhead_n hid kw) ?_
  simp [hh]
theorem flist_n (hid : p.idOf = none) (kw : Contract Try.prog 19 [p] h (.v (.map none)) h []) (hp : plainH h) : Contract Try.prog 17 [p] h (.sl 1 [] none .no) h [] := by
  refine contract_of k17 mixedFo (by simp [c17]) fun hh hargs => ?_
  have hl2 := ltLL_mono (Nat.le_add_right h.length 2) hh
  simp [c17, hid]
  refine xcall_self (by simpa using hid) kw ?_
  have hcl : (AV.v (.map none)).cells = some [.v (.map none)] := rfl
  have hly : lay [AV.v (.map none)] 0 [AV.v (.map none)] = [.v (.map none)] := rfl
  simp [hcl, hly]
  refine xloop_ok (D := Nat) (fun _ => ⟨[(3, .box h.length 0), (9, .itr (h.length + 1) none 1 true)], [(4, .sl 1 [] none (.own (.new 4)))], h ++ [[.v (.map none)], itC 0 0 []], []⟩) (fun _ => True) (fun _ => 0) 0 trivial ?_ ?_
  · simp [Leq, hh, leqH_take, itC, hl2]
  · intro _ _
    simp
    have hins : InPlaceC Try.prog 20 [] [] (.fn (.func 21) [] [.box h.length 0]) (h ++ [[.v (.map none)], itC 0 0 []]) := by
      refine ⟨enters_ofB (by kernel_rfl), rfl, (fun u hu => by cases hu), fun G w fv a cap hW hH hF hcap hcells => ?_⟩
      exact (Try.slices_SortFunc_none (α := Int) a cap fv w).mono fun e w' he => by
        obtain ⟨h1, h2⟩ := he
        subst h2
        exact ⟨h1, turned_none _ _⟩
    refine ⟨[], [], 1, none, .own (.new 4), rfl, .inl ⟨rfl, _, rfl, rfl⟩, trivial, hins, ⟨by simpa using hid, hp⟩, by simp, ?_⟩
    have hres : ∀ m (es : List (List AV)), resOf m (.sl 1 es none (.own (.new 2))) = .sl 1 es none (.own .res) := fun _ _ => rfl
    have hv : vE [] = [] := rfl
    simp [St.sortedF, St.calm, hh, hres, hv]
end
set_option maxHeartbeats 1000000 in
theorem fnobody_c (n : Int) : Contract Try.prog 5 [.v (.int .i64 n)] [] (.v (.bool true)) [] [] := by
  refine contract_of k5 mixedFo (by simp [c5]) fun hh hargs => ?_
  have hz : ([[.v (.map none), .v (.int .i64 0)]] : List (List AV))[0]? = some [.v (.map none), .v (.int .i64 0)] := rfl
  have kz := zwait_c hz
  have kn := nwait_c [[.v (.map none), .v (.int .i64 0)]]
  have hp : plainH [[.v (.map none), .v (.int .i64 0)]] := fun cs hcs c hc => by
    rw [List.mem_singleton.1 hcs] at hc
    simp at hc
    rcases hc with rfl | rfl <;> rfl
  simp [c5]
  refine xcall_self (by simp) (fhead_n rfl kn) ?_
  simp
  refine xcall_self (by simp) (fpop_n rfl kz) ?_
  simp
  refine xcall_self (by simp) (fpush_n rfl kn n) ?_
  simp
  refine xcall_self (by simp) (fpush_n rfl kz n) ?_
  simp
  refine xcall_self (by simp) (fremove_n rfl kn n) ?_
  simp
  refine xcall_self (by simp) (flen_n rfl kn) ?_
  simp
  refine xcall_self (by simp) (flist_n rfl kz hp) ?_
  simp
  refine xcall_self (by simp) (fawake_c _) ?_
  simp
end Go.Proofs.Ytlbgjlmokpkkeaa.Ax
namespace Go.Proofs.Ytlbgjlmokpkkeaa.fifoNobody
open Go.ChangeShapes Go.WideShapes Go.ChangeAt Go.RowKit
open Go.ChangeMaps (open_string shut_string)
set_option linter.unusedVariables false

theorem own : ownKnob Try.prog.godebug = none := by kernel_rfl
theorem laidOut : laidOutB Try.prog = true := by kernel_rfl

set_option maxRecDepth 100000 in
theorem lifted (os : Os) (started : os.Started) (H : Type) (enc : TypeId × Value → H) :
    ReturnsInHanded {} Try.checked os 5 .any (Rows.fifoNobodySpec.pre6 enc Try.prog Try.f5 Rows.fifoNobodyRow.domain false) (Rows.fifoNobodySpec.post enc Try.prog Try.f5 false true false false) := by
  refine returnsInHanded_of_change (C := Try.checked) own started (by kernel_rfl) Try.func5
    (ChangeSpec.witness6 (enc := enc) (C := Try.checked) false ⟨#[], #[.int .i64 0], []⟩ 8 (by kernel_rfl) (by kernel_rfl) (by kernel_rfl) (by kernel_rfl)) ?_
  intro W base args ds gs before hval0 hW hcnd _
  have hval : ∀ (j : Nat) t v, Try.f5.params[j]? = some t → args[j]? = some v → Value.okWide Try.prog W .any base t v := hval0
  have hW' := hW
  obtain ⟨p, q, hA0, hV, rfl, hfz, hnd⟩ := hW
  have hA : DataW.TrodAll enc Try.prog W 0 (fun _ => true) true Try.f5.params.toList args.toList ds p := hA0
  rw [Try.params5] at hA hval
  obtain ⟨v0, vs0, d0, ds0, p0, q0, hargs, rfl, rfl, h0, r0⟩ := trodAll_cons hA
  obtain ⟨rfl, rfl, rfl⟩ := trodAll_nil r0
  obtain rfl : args = #[v0] := by cases args; simp_all
  obtain ⟨rfl, rfl⟩ := trodVars_none hV
  have k0 := h0
  have lt0 : ∀ x ∈ p0, x.block < W.heap.size := by obtain ⟨m, hm⟩ := k0; exact DataW.trod_lt m _ _ _ hm
  obtain ⟨a0, ok0, s0⟩ := Ax.arg_int Try.underlying3 (hval 0 3 v0 rfl rfl) h0
  clear hA0 hval0
  refine (Ax.law_walk (w := W) (Ax.dom_any W) (Ax.fnobody_c a0) (by simp) (.cons s0 .nil)).mono fun e W' ⟨he, bel⟩ => ?_
  subst he
  exact ⟨_, rfl, _, _, _, [], _, [], hW', trodAll_mk1 (shut_bool Try.underlying4 _), (trodAll_cons_mk (Below.trod laidOut (by kernel_rfl) (of_decide_eq_true (by kernel_rfl)) k0 bel lt0) trodAll_mk0), rfl, bel.frame _, fun h => by cases h⟩

theorem over : Rows.fifoNobodyRow.holds Try.pinned (OpenSpec.ofChange Rows.fifoNobodySpec) :=
  OpenClaim.holds_of_wide 5 Try.f5 rfl rfl rfl rfl rfl rfl rfl ⟨rfl, rfl, rfl, rfl, rfl⟩ rfl rfl rfl rfl rfl (by kernel_rfl) Try.func5 (by kernel_rfl)
    (of_decide_eq_true (by kernel_rfl)) (by unfold Func.isWrapper; first | (rw [if_pos (by decide +kernel)]; kernel_rfl) | (rw [if_neg (by decide +kernel)]; exact ⟨rfl, rfl⟩))
    (fun os started H enc _ => lifted os started H enc)

theorem proved : Rows.FifoNobodySaid := over
#print axioms proved
end Go.Proofs.Ytlbgjlmokpkkeaa.fifoNobody
