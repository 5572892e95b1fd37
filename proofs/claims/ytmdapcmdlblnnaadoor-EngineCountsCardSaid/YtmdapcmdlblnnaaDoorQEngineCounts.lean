/- Each time the engine is asked it tells one more than ahead. -/
import Derived.Test.YtmdapcmdlblnnaaDoorQAxSv
import Derived.Test.YtmdapcmdlblnnaaDoorQAxGe
import Derived.Test.YtmdapcmdlblnnaaDoorRows
import Derived.Test.YtmdapcmdlblnnaaDoorCards
import Derived.Test.YtmdapcmdlblnnaaDoorTie
import Derived.Test.YtmdapcmdlblnnaaDoorQElems
import Derived.Test.YtmdapcmdlblnnaaDoorQAxXr
import Derived.WalkKit
import Derived.ProofKit
import Derived.OpenShut
import Derived.ShutString
import Derived.ChangeOld
import Derived.Below
import Derived.LaidMore
import Derived.Lay
import Derived.SevenTiedAt
import Derived.Stop.Joined
/- Lists of texts that come in. -/
namespace Go.Proofs.YtmdapcmdlblnnaaDoor.Ax
open Go.RowKit Go By
set_option linter.unusedSimpArgs false
set_option linter.unusedVariables false
end Go.Proofs.YtmdapcmdlblnnaaDoor.Ax
/- Layer 27's statements: calls in a row. -/
namespace Go.Proofs.YtmdapcmdlblnnaaDoor.Ax
open Go.RowKit Go By Dg
set_option linter.unusedSimpArgs false
set_option linter.unusedVariables false
set_option maxRecDepth 10000

@[simp] theorem edC_1 (i : Nat) (L : List (List UInt8)) (n : Nat) : (edC i L n)[1]? = some (.v (.int .i64 (n : Int))) := of_eq_true (eq_self _)
@[simp] theorem edC_g1 (i : Nat) (L : List (List UInt8)) (n : Nat) (h : 1 < (edC i L n).length) : (edC i L n)[1] = .v (.int .i64 (n : Int)) := of_eq_true (eq_self _)
@[simp] theorem edC_len (i : Nat) (L : List (List UInt8)) (n : Nat) : (edC i L n).length = 2 := of_eq_true (eq_self _)
end Go.Proofs.YtmdapcmdlblnnaaDoor.Ax
/- Layer 27's statements: what is counted; what is never refused. -/
namespace Go.Proofs.YtmdapcmdlblnnaaDoor.Ax
open Go.RowKit Go By Dg
set_option linter.unusedSimpArgs false
set_option linter.unusedVariables false
set_option maxRecDepth 10000

def ecH (T : Eg) : List (List AV) := [T.cells, egC 0 T.n]
structure EC where
  T : Eg
  j : Nat
structure EC.Ok (m : Nat) (d : EC) : Prop where
  le : d.j ≤ m
  a : d.T.a = 0
  ok : EgOk d.T
  n : d.T.n ≤ d.j
theorem ecH_at {T : Eg} (ha : T.a = 0) (xs : List (List AV)) : EgAt (ecH T ++ xs) 1 T := ⟨by simp [ecH, ha], by simp [ecH, ha], by rw [ha]; decide⟩
theorem eTurn_y {T : Eg} (ha : T.a = 0) (ho : EgOk T) (xs : List (List AV)) (k : List UInt8) (hk : k.length ≤ 300) : Contract Tryd.prog 8 [.box 1 0, .v (.string (strB k))] (ecH T ++ xs) (.v (.bool (!T.no k))) (ecH (T.turn k) ++ xs) [0] := by
  have := eturn_c (ecH_at ha xs) ho k (by omega)
  rw [ha] at this
  have e : (ecH T ++ xs).set 0 (T.turn k).cells = ecH (T.turn k) ++ xs := by simp [ecH, Eg.turn_n]
  rw [e] at this
  exact this
set_option maxHeartbeats 2000000 in
theorem ecounts_c (l : List De) (hok : l.length ≤ reachBytes ∧ ∀ d ∈ l, OkDe d) : Contract Tryd.prog 4 [.sl 7 (enc deC l) none .no] [] (.v (.bool true)) [] [] := by
  refine contract_of k4 mixed (by simp [c4]) fun hh hargs => ?_
  have hnew := enew_c []
  simp [egC] at hnew
  simp [c4]
  refine xcall_self (by simp) hnew ?_
  simp
  have fin : ∀ T : Eg, T.a = 0 → ∀ xs, Contract Tryd.prog 17 [.box 1 0] (T.cells :: egC 0 T.n :: xs) (.v (.int .i64 (T.n : Int))) (T.cells :: egC 0 T.n :: xs) [] := fun T ha xs => ecount_c (ecH_at ha xs)
  refine xloop_ok (D := EC) (fun d => ⟨[(3, .box 1 0), (4, .v (.int .i64 (d.T.n : Int))), (9, .sl 7 (enc deC l) none .no), (10, .v (.int .i64 (l.length : Int))), (11, .v (.int .i64 (d.j : Int)))], [], ecH d.T, []⟩) (fun d => EC.Ok l.length d ∧ d.j ≤ 60) (fun d => l.length - d.j) ⟨newE 0, 0⟩ ⟨⟨Nat.zero_le _, rfl, newE_ok 0, Nat.le_refl _⟩, Nat.zero_le _⟩ ?_ ?_
  · simp [Leq, ecH, egC, newE, Eg.cells, mapC]
    done
  · rintro ⟨T, j⟩ ⟨⟨hj, ha, ho, hn⟩, h60⟩
    dsimp only at hj h60 ha ho hn
    have hcl := T.lt
    by_cases hlt : j < l.length
    · by_cases hj60 : j = 60
      · subst hj60
        have h61 : (60 : Int) < l.length := by omega
        simp [hlt, h61, ecH]
        refine xcall_self (by simp) (fin T ha _) ?_
        simp
        refine xcall_self (by simp) (eawake_c _) ?_
        simp [hh, leqH_take]
        done
      · have hj59 : ¬ (60 : Int) ≤ j := by omega
        have hw : IntKind.i64.wrap ((j : Int) + 1) = (j : Int) + 1 := wrap64 (by omega) (by omega)
        have hwn : IntKind.i64.wrap ((T.n : Int) + 1) = (T.n : Int) + 1 := wrap64 (by omega) (by omega)
        obtain ⟨d, hd⟩ : ∃ d, d = l[j] := ⟨_, rfl⟩
        have hnext : j + 1 ≤ l.length := hlt
        have hmu : l.length - (j + 1) < l.length - j := by omega
        by_cases ht3 : (300 : Int) < d.text.length
        · simp [hlt, hj59, ecH, ← hd, ht3]
          refine xcall_self (by simp) (fin T ha _) ?_
          simp
          refine xcall_self (by simp) (eawake_c _) ?_
          simp [hh, leqH_take]
          done
        have htl : d.text.length ≤ 300 := by omega
        by_cases o0 : d.op = 0
        · have k1 := eTurn_y ha ho [deC d] d.text htl
          have hok' : EC.Ok l.length ⟨T.turn d.text, j + 1⟩ ∧ j + 1 ≤ 60 := ⟨⟨hnext, by show (T.turn d.text).a = 0; rw [Eg.turn_a, ha], ho.turn _, by show (T.turn d.text).n ≤ j + 1; rw [Eg.turn_n]; omega⟩, by omega⟩
          have hlc := (T.turn d.text).lt
          simp [ecH, Eg.turn_n] at k1
          simp [hlt, hj59, ecH, ← hd, ht3, o0]
          refine xcall_self (by simp) k1 ?_
          simp [hw, o0]
          refine ⟨_, hok', hmu, ?_⟩
          simp [Leq, ecH, egC, Eg.turn_n, hlc, hh]
          done
        have o0' : (d.op == 0) = false := by simpa using o0
        by_cases o1 : d.op = 1
        · have hok' : EC.Ok l.length ⟨{ T with n := T.n + 1 }, j + 1⟩ ∧ j + 1 ≤ 60 := ⟨⟨hnext, ha, ⟨ho.ok⟩, by show T.n + 1 ≤ j + 1; omega⟩, by omega⟩
          have k1 := enext_c (ecH_at ha [deC d]) (by omega)
          have hcc : ({ T with n := T.n + 1 } : Eg).cells = T.cells := rfl
          simp [ecH, ha] at k1
          simp [hlt, hj59, ecH, ← hd, ht3, o0, o0', o1]
          refine xcall_self (by simp) k1 ?_
          simp [hw, hwn]
          refine ⟨_, hok', hmu, ?_⟩
          simp [Leq, ecH, egC, hcl, hh, hcc]
          done
        have o1' : (d.op == 1) = false := by simpa using o1
        have hok' : EC.Ok l.length ⟨T, j + 1⟩ ∧ j + 1 ≤ 60 := ⟨⟨hnext, ha, ho, Nat.le_succ_of_le hn⟩, by omega⟩
        simp [hlt, hj59, ecH, ← hd, ht3, o0, o0', o1, o1', hw]
        refine ⟨_, hok', hmu, ?_⟩
        simp [Leq, ecH, egC, hcl, hh]
        done
    · have : j = l.length := by omega
      subst this
      simp [ecH]
      refine xcall_self (by simp) (fin T ha _) ?_
      simp
      refine xcall_self (by simp) (eawake_c _) ?_
      simp [hh, leqH_take]
      done
end Go.Proofs.YtmdapcmdlblnnaaDoor.Ax
namespace Go.Proofs.YtmdapcmdlblnnaaDoor.engineCounts
open Go.ChangeShapes Go.WideShapes Go.ChangeAt Go.RowKit
open Go.ChangeMaps (open_string shut_string)
set_option linter.unusedVariables false

theorem own : ownKnob Tryd.prog.godebug = none := by kernel_rfl
theorem laidOut : laidOutB Tryd.prog = true := by kernel_rfl

set_option maxRecDepth 100000 in
theorem lifted (os : Os) (started : os.Started) (H : Type) (enc : TypeId × Value → H) :
    ReturnsInHanded {} Tryd.checked os 4 .any (fun w args => (Rows.engineCountsSpec.pre enc Tryd.prog Tryd.f4 Rows.engineCountsRow.domain false w args ∧ laidMetH Tryd.prog Rows.engineCountsRow.laid w) ∧ sizedMet enc Tryd.prog Tryd.f4 (OpenSpec.ofChange Rows.engineCountsSpec) false w args) (Rows.engineCountsSpec.post enc Tryd.prog Tryd.f4 false true false false) := by
  refine returnsInHanded_of_change_and (C := Tryd.checked) (X := fun w _ => laidMetH Tryd.prog Rows.engineCountsRow.laid w) (fun _ _ _ hh h => h.of_heap hh) own started (by kernel_rfl) Tryd.func4
    (ChangeSpec.witness_shaped (enc := enc) (C := Tryd.checked) (os := os) (X := fun w _ => laidMetH Tryd.prog Rows.engineCountsRow.laid w) false (World.laidAll Tryd.prog os Rows.engineCountsRow.laid) #[.slice none 0 0] 8 (World.laidAll_os _ _ _)
      (World.shaped_of_ZipB (by kernel_rfl) (by kernel_rfl)) (by kernel_rfl) (by kernel_rfl) (by kernel_rfl)
      (by rw [MakeChecks.laidMetH_plain _ _ _ (by kernel_rfl)]; exact laidMet_laidAll _ (by kernel_rfl) (by kernel_rfl))) ?_
  intro W base args ds gs before hval0 hW hcnd hreach hL _
  have hval : ∀ (j : Nat) t v, Tryd.f4.params[j]? = some t → args[j]? = some v → Value.okWide Tryd.prog W .any base t v := hval0
  have hW' := hW
  obtain ⟨p, q, hA0, hV, rfl, hfz, hnd⟩ := hW
  have hA : DataW.TrodAll enc Tryd.prog W 0 (fun _ => true) true Tryd.f4.params.toList args.toList ds p := hA0
  rw [Tryd.params4] at hA hval
  obtain ⟨v0, vs0, d0, ds0, p0, q0, hargs, rfl, rfl, h0, r0⟩ := trodAll_cons hA
  obtain ⟨rfl, rfl, rfl⟩ := trodAll_nil r0
  obtain rfl : args = #[v0] := by cases args; simp_all
  obtain ⟨rfl, rfl⟩ := trodVars_none hV
  have k0 := h0
  have lt0 : ∀ x ∈ p0, x.block < W.heap.size := by obtain ⟨m, hm⟩ := k0; exact DataW.trod_lt m _ _ _ hm
  obtain ⟨a0, ok0, s0⟩ := Ax.argR_slice Tryd.underlying22 Ax.sh_deRL (hval 0 22 v0 rfl rfl) h0 (Ax.reached_of hreach (j := 0) rfl rfl)
  clear hA0 hval0 hreach
  refine (Ax.law_walk (w := W) (Ax.dom_any W) (Ax.ecounts_c a0 ok0) (by simp) (.cons s0 .nil)).mono fun e W' ⟨he, bel⟩ => ?_
  subst he
  exact ⟨_, rfl, _, _, _, [], _, [], hW', trodAll_mk1 (shut_bool Tryd.underlying4 _), (trodAll_cons_mk (Below.trod laidOut (by kernel_rfl) (of_decide_eq_true (by kernel_rfl)) k0 bel lt0) trodAll_mk0), rfl, bel.frame _, fun h => by cases h⟩

theorem over : Rows.engineCountsRow.holds Tryd.pinned (OpenSpec.ofChange Rows.engineCountsSpec) :=
  OpenClaim.holds_of_wide 4 Tryd.f4 rfl rfl rfl rfl rfl rfl rfl ⟨rfl, rfl, rfl, rfl, rfl⟩ rfl rfl rfl rfl rfl (by kernel_rfl) Tryd.func4 (by kernel_rfl)
    (of_decide_eq_true (by kernel_rfl)) (by unfold Func.isWrapper; first | (rw [if_pos (by decide +kernel)]; kernel_rfl) | (rw [if_neg (by decide +kernel)]; exact ⟨rfl, rfl⟩))
    (fun os started H enc _ => lifted os started H enc)

theorem proved : Rows.EngineCountsCardSaid :=
  Claim7.holds_tied_plain_at .later [] [.data, .pinned] true (true, "7d7c5906035f1852b68263b4beb5a7323e5046a3de23efaf4599aa5752d04a74") false over (fun _ h => by cases h) (by kernel_rfl) (fun _ h => by cases h) engineCounts_row_tie rfl ⟨rfl, rfl⟩ (by kernel_rfl) rfl
    (fun f fn hf hfn => by
      obtain rfl : f = 4 := Option.some.inj ((show Tryd.prog.funcNamed "remuda/remudalaw27.EngineCounts" = some 4 by kernel_rfl).symm.trans hf) |>.symm
      obtain rfl : fn = Tryd.f4 := (Option.some.inj (Tryd.func4.symm.trans hfn)).symm
      exact ⟨by kernel_rfl, fun j t ht => by
        rw [Tryd.params4] at ht
        have hm : t ∈ [22] := by simpa using Array.mem_of_getElem? ht
        have hall : ([22].all fun u => !Tryd.prog.wantsStandIn u) = true := by kernel_rfl
        exact (show Tryd.prog.wantsStandIn t = false by simpa using List.all_eq_true.1 hall t hm)⟩)
    (by kernel_rfl)
#print axioms proved
end Go.Proofs.YtmdapcmdlblnnaaDoor.engineCounts
