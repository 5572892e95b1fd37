/- Nothing and the ends of transactions are never refused, whatever the engine is told to refuse. -/
import Derived.Test.YtmdapcmdlblnnaaDoorQAxSv
import Derived.Test.YtmdapcmdlblnnaaDoorQAxGe
import Derived.Test.YtmdapcmdlblnnaaDoorRows
import Derived.Test.YtmdapcmdlblnnaaDoorCards
import Derived.Test.YtmdapcmdlblnnaaDoorTie
import Derived.Test.YtmdapcmdlblnnaaDoorQElems
import Derived.Test.YtmdapcmdlblnnaaDoorQAxXr
import Derived.WalkKit
import Derived.ProofKit
import Derived.OpenShut
import Derived.ShutString
import Derived.ChangeOld
import Derived.Below
import Derived.LaidMore
import Derived.Lay
import Derived.SevenTiedAt
import Derived.Stop.Joined
/- Lists of texts that come in. -/
namespace Go.Proofs.YtmdapcmdlblnnaaDoor.Ax
open Go.RowKit Go By
set_option linter.unusedSimpArgs false
set_option linter.unusedVariables false
theorem sh_strL : Shape Tryd.prog 26 (fun l : List (List UInt8) => [.sl 1 (enc strC l) none .no]) (fun l => l.length ≤ maxLen) := Shape.map (shape_slice Tryd.underlying26 (by kernel_rfl) (by decide) sh_str (fun _ => rfl)) id (fun _ => rfl) (fun _ h => h.1)
end Go.Proofs.YtmdapcmdlblnnaaDoor.Ax
/- Layer 27's statements: calls in a row. -/
namespace Go.Proofs.YtmdapcmdlblnnaaDoor.Ax
open Go.RowKit Go By Dg
set_option linter.unusedSimpArgs false
set_option linter.unusedVariables false
set_option maxRecDepth 10000

@[simp] theorem edC_1 (i : Nat) (L : List (List UInt8)) (n : Nat) : (edC i L n)[1]? = some (.v (.int .i64 (n : Int))) := of_eq_true (eq_self _)
@[simp] theorem edC_g1 (i : Nat) (L : List (List UInt8)) (n : Nat) (h : 1 < (edC i L n).length) : (edC i L n)[1] = .v (.int .i64 (n : Int)) := of_eq_true (eq_self _)
@[simp] theorem edC_len (i : Nat) (L : List (List UInt8)) (n : Nat) : (edC i L n).length = 2 := of_eq_true (eq_self _)
end Go.Proofs.YtmdapcmdlblnnaaDoor.Ax
/- Layer 27's statements: what is counted; what is never refused. -/
namespace Go.Proofs.YtmdapcmdlblnnaaDoor.Ax
open Go.RowKit Go By Dg
set_option linter.unusedSimpArgs false
set_option linter.unusedVariables false
set_option maxRecDepth 10000

def ecH (T : Eg) : List (List AV) := [T.cells, egC 0 T.n]
structure EC where
  T : Eg
  j : Nat
structure EC.Ok (m : Nat) (d : EC) : Prop where
  le : d.j ≤ m
  a : d.T.a = 0
  ok : EgOk d.T
  n : d.T.n ≤ d.j
theorem ecH_at {T : Eg} (ha : T.a = 0) (xs : List (List AV)) : EgAt (ecH T ++ xs) 1 T := ⟨by simp [ecH, ha], by simp [ecH, ha], by rw [ha]; decide⟩
theorem eTurn_y {T : Eg} (ha : T.a = 0) (ho : EgOk T) (xs : List (List AV)) (k : List UInt8) (hk : k.length ≤ 300) : Contract Tryd.prog 8 [.box 1 0, .v (.string (strB k))] (ecH T ++ xs) (.v (.bool (!T.no k))) (ecH (T.turn k) ++ xs) [0] := by
  have := eturn_c (ecH_at ha xs) ho k (by omega)
  rw [ha] at this
  have e : (ecH T ++ xs).set 0 (T.turn k).cells = ecH (T.turn k) ++ xs := by simp [ecH, Eg.turn_n]
  rw [e] at this
  exact this
theorem never_e (no : Bool) (st : Int) : verdict no (sayQ (trimL [])) st = if st = 69 then ⟨abC, abT, true⟩ else ⟨[], [], false⟩ := by
  have e : (sayQ (trimL [])).kind = 1 := by decide +kernel
  unfold verdict; rw [e]; simp
theorem never_b (no : Bool) (st : Int) : verdict no (sayQ (trimL [32])) st = if st = 69 then ⟨abC, abT, true⟩ else ⟨[], [], false⟩ := by
  have e : (sayQ (trimL [32])).kind = 1 := by decide +kernel
  unfold verdict; rw [e]; simp
theorem never_c (no : Bool) (st : Int) : verdict no (sayQ (trimL [99, 111, 109, 109, 105, 116])) st = ⟨[], [], false⟩ := by
  have e : (sayQ (trimL [99, 111, 109, 109, 105, 116])).kind = 3 := by decide +kernel
  unfold verdict; rw [e]; simp
theorem never_r (no : Bool) (st : Int) : verdict no (sayQ (trimL [114, 111, 108, 108, 98, 97, 99, 107, 32])) st = ⟨[], [], false⟩ := by
  have e : (sayQ (trimL [114, 111, 108, 108, 98, 97, 99, 107, 32])).kind = 4 := by decide +kernel
  unfold verdict; rw [e]; simp
set_option maxHeartbeats 2000000 in
theorem enever_c (l : List (List UInt8)) (st : Int) (hl : l.length ≤ maxLen) : Contract Tryd.prog 5 [.sl 1 (enc strC l) none .no, .v (.int .u8 st)] [] (.v (.bool true)) [] [] := by
  have hl2 : l.length ≤ 9223372036854775807 := by simpa [maxLen] using hl
  refine contract_of k5 mixed (by simp [c5]) fun hh hargs => ?_
  have hnew := enew_c []
  simp [egC] at hnew
  simp [c5]
  refine xcall_self (by simp) hnew ?_
  simp
  refine xloop_ok (D := EC) (fun d => ⟨[(1, .v (.int .u8 st)), (5, .box 1 0), (14, .sl 1 (enc strC l) none .no), (15, .v (.int .i64 (l.length : Int))), (16, .v (.int .i64 (d.j : Int)))], [], ecH d.T, []⟩) (fun d => EC.Ok l.length d ∧ d.T.n = 0) (fun d => l.length - d.j) ⟨newE 0, 0⟩ ⟨⟨Nat.zero_le _, rfl, newE_ok 0, Nat.le_refl _⟩, rfl⟩ ?_ ?_
  · simp [Leq, ecH, egC, newE, Eg.cells, mapC]
    done
  · rintro ⟨T, j⟩ ⟨⟨hj, ha, ho, hn⟩, h0⟩
    dsimp only at hj ha ho hn h0
    have hcl := T.lt
    by_cases hlt : j < l.length
    · have hw : IntKind.i64.wrap ((j : Int) + 1) = (j : Int) + 1 := wrap64 (by omega) (by omega)
      have hnext : j + 1 ≤ l.length := hlt
      have hmu : l.length - (j + 1) < l.length - j := by omega
      obtain ⟨d, hd⟩ : ∃ d, d = l[j] := ⟨_, rfl⟩
      have hokS : EC.Ok l.length ⟨T, j + 1⟩ ∧ T.n = 0 := ⟨⟨hnext, ha, ho, Nat.le_succ_of_le hn⟩, h0⟩
      by_cases hj60 : j < 60
      · have hj6 : (j : Int) < 60 := by omega
        by_cases ht3 : (d.length : Int) ≤ 300
        · have k1 := eTurn_y ha ho [] d (by omega)
          have hok' : EC.Ok l.length ⟨T.turn d, j + 1⟩ ∧ (T.turn d).n = 0 := ⟨⟨hnext, by show (T.turn d).a = 0; rw [Eg.turn_a, ha], ho.turn _, by show (T.turn d).n ≤ j + 1; rw [Eg.turn_n]; omega⟩, by rw [Eg.turn_n]; exact h0⟩
          have hlc := (T.turn d).lt
          simp [ecH, Eg.turn_n] at k1
          simp [hlt, hj6, strC, ← hd, ht3, ecH]
          refine xcall_self (by simp) k1 ?_
          simp [hw]
          refine ⟨_, hok', hmu, ?_⟩
          simp [Leq, ecH, egC, Eg.turn_n, hlc, hh]
          done
        · simp [hlt, hj6, strC, ← hd, ht3, ecH, hw]
          refine ⟨_, hokS, hmu, ?_⟩
          simp [Leq, ecH, egC, hcl, hh]
          done
      · have hj6 : ¬ (j : Int) < 60 := by omega
        simp [hlt, hj6, strC, ← hd, ecH, hw]
        refine ⟨_, hokS, hmu, ?_⟩
        simp [Leq, ecH, egC, hcl, hh]
        done
    · have : j = l.length := by omega
      subst this
      simp
      refine xloop_ok (D := Nat) (fun q => ⟨[(1, .v (.int .u8 st)), (5, .box 1 0), (32, .sl 1 [[.v (.string (strB []))], [.v (.string (strB [32]))], [.v (.string (strB [99, 111, 109, 109, 105, 116]))], [.v (.string (strB [114, 111, 108, 108, 98, 97, 99, 107, 32]))]] none .no), (33, .v (.int .i64 4)), (34, .v (.int .i64 (q : Int)))], [], ecH T, []⟩) (fun q => q ≤ 4) (fun q => 4 - q) 0 (by simp) ?_ ?_
      · simp [Leq, ecH, egC, hcl, hh]
        done
      · intro q hq
        have fin := fun s hs => everdict_c (ecH_at ha []) s hs st
        have w1 : IntKind.i64.wrap 1 = 1 := rfl
        have w2 : IntKind.i64.wrap 2 = 2 := rfl
        have w3 : IntKind.i64.wrap 3 = 3 := rfl
        have w4 : IntKind.i64.wrap 4 = 4 := rfl
        have v1 := fin [] (by simp)
        have v2 := fin [32] (by simp)
        have v3 := fin [99, 111, 109, 109, 105, 116] (by simp)
        have v4 := fin [114, 111, 108, 108, 98, 97, 99, 107, 32] (by simp)
        rw [never_e] at v1
        rw [never_b] at v2
        rw [never_c] at v3
        rw [never_r] at v4
        simp [ecH] at v1 v2 v3 v4
        rcases (show q = 0 ∨ q = 1 ∨ q = 2 ∨ q = 3 ∨ q = 4 by omega) with rfl | rfl | rfl | rfl | rfl
        · simp [ecH]
          refine xcall_self (by simp) v1 ?_
          by_cases s69 : st = 69
          · simp [s69, vdV, abC]
            refine ⟨1, by omega, by omega, ?_⟩
            simp [Leq, ecH, egC, hcl, hh, w1, w2, w3, w4]
            done
          · have s69' : (st == 69) = false := by simpa using s69
            simp [s69, s69', vdV]
            refine ⟨1, by omega, by omega, ?_⟩
            simp [Leq, ecH, egC, hcl, hh, w1, w2, w3, w4]
            done
        · simp [ecH]
          refine xcall_self (by simp) v2 ?_
          by_cases s69 : st = 69
          · simp [s69, vdV, abC]
            refine ⟨2, by omega, by omega, ?_⟩
            simp [Leq, ecH, egC, hcl, hh, w1, w2, w3, w4]
            done
          · have s69' : (st == 69) = false := by simpa using s69
            simp [s69, s69', vdV]
            refine ⟨2, by omega, by omega, ?_⟩
            simp [Leq, ecH, egC, hcl, hh, w1, w2, w3, w4]
            done
        · simp [ecH]
          refine xcall_self (by simp) v3 ?_
          by_cases s69 : st = 69
          · simp [s69, vdV]
            refine ⟨3, by omega, by omega, ?_⟩
            simp [Leq, ecH, egC, hcl, hh, w1, w2, w3, w4]
            done
          · have s69' : (st == 69) = false := by simpa using s69
            simp [s69, s69', vdV]
            refine ⟨3, by omega, by omega, ?_⟩
            simp [Leq, ecH, egC, hcl, hh, w1, w2, w3, w4]
            done
        · simp [ecH]
          refine xcall_self (by simp) v4 ?_
          by_cases s69 : st = 69
          · simp [s69, vdV]
            refine ⟨4, by omega, by omega, ?_⟩
            simp [Leq, ecH, egC, hcl, hh, w1, w2, w3, w4]
            done
          · have s69' : (st == 69) = false := by simpa using s69
            simp [s69, s69', vdV]
            refine ⟨4, by omega, by omega, ?_⟩
            simp [Leq, ecH, egC, hcl, hh, w1, w2, w3, w4]
            done
        · simp [ecH]
          refine xcall_self (by simp) (eawake_c _) ?_
          simp [hh, leqH_take]
          done
end Go.Proofs.YtmdapcmdlblnnaaDoor.Ax
namespace Go.Proofs.YtmdapcmdlblnnaaDoor.engineNever
open Go.ChangeShapes Go.WideShapes Go.ChangeAt Go.RowKit
open Go.ChangeMaps (open_string shut_string)
set_option linter.unusedVariables false

theorem own : ownKnob Tryd.prog.godebug = none := by kernel_rfl
theorem laidOut : laidOutB Tryd.prog = true := by kernel_rfl

set_option maxRecDepth 100000 in
theorem lifted (os : Os) (started : os.Started) (H : Type) (enc : TypeId × Value → H) :
    ReturnsInHanded {} Tryd.checked os 5 .any (fun w args => (Rows.engineNeverSpec.pre enc Tryd.prog Tryd.f5 Rows.engineNeverRow.domain false w args ∧ laidMetH Tryd.prog Rows.engineNeverRow.laid w) ∧ sizedMet enc Tryd.prog Tryd.f5 (OpenSpec.ofChange Rows.engineNeverSpec) false w args) (Rows.engineNeverSpec.post enc Tryd.prog Tryd.f5 false true false false) := by
  refine returnsInHanded_of_change_and (C := Tryd.checked) (X := fun w _ => laidMetH Tryd.prog Rows.engineNeverRow.laid w) (fun _ _ _ hh h => h.of_heap hh) own started (by kernel_rfl) Tryd.func5
    (ChangeSpec.witness_shaped (enc := enc) (C := Tryd.checked) (os := os) (X := fun w _ => laidMetH Tryd.prog Rows.engineNeverRow.laid w) false (World.laidAll Tryd.prog os Rows.engineNeverRow.laid) #[.slice none 0 0, .int .u8 0] 8 (World.laidAll_os _ _ _)
      (World.shaped_of_ZipB (by kernel_rfl) (by kernel_rfl)) (by kernel_rfl) (by kernel_rfl) (by kernel_rfl)
      (by rw [MakeChecks.laidMetH_plain _ _ _ (by kernel_rfl)]; exact laidMet_laidAll _ (by kernel_rfl) (by kernel_rfl))) ?_
  intro W base args ds gs before hval0 hW hcnd hreach hL _
  have hval : ∀ (j : Nat) t v, Tryd.f5.params[j]? = some t → args[j]? = some v → Value.okWide Tryd.prog W .any base t v := hval0
  have hW' := hW
  obtain ⟨p, q, hA0, hV, rfl, hfz, hnd⟩ := hW
  have hA : DataW.TrodAll enc Tryd.prog W 0 (fun _ => true) true Tryd.f5.params.toList args.toList ds p := hA0
  rw [Tryd.params5] at hA hval
  obtain ⟨v0, vs0, d0, ds0, p0, q0, hargs, rfl, rfl, h0, r0⟩ := trodAll_cons hA
  obtain ⟨v1, vs1, d1, ds1, p1, q1, rfl, rfl, rfl, h1, r1⟩ := trodAll_cons r0
  obtain ⟨rfl, rfl, rfl⟩ := trodAll_nil r1
  obtain rfl : args = #[v0, v1] := by cases args; simp_all
  obtain ⟨rfl, rfl⟩ := trodVars_none hV
  have k0 := h0
  have lt0 : ∀ x ∈ p0, x.block < W.heap.size := by obtain ⟨m, hm⟩ := k0; exact DataW.trod_lt m _ _ _ hm
  obtain ⟨a0, ok0, s0⟩ := Ax.arg_slice Tryd.underlying26 Ax.sh_strL (hval 0 26 v0 rfl rfl) h0
  have k1 := h1
  have lt1 : ∀ x ∈ p1, x.block < W.heap.size := by obtain ⟨m, hm⟩ := k1; exact DataW.trod_lt m _ _ _ hm
  obtain ⟨a1, ok1, s1⟩ := Ax.arg_int Tryd.underlying5 (hval 1 5 v1 rfl rfl) h1
  clear hA0 hval0 hreach
  refine (Ax.law_walk (w := W) (Ax.dom_any W) (Ax.enever_c a0 a1 ok0) (by simp) (.cons s0 (.cons s1 .nil))).mono fun e W' ⟨he, bel⟩ => ?_
  subst he
  exact ⟨_, rfl, _, _, _, [], _, [], hW', trodAll_mk1 (shut_bool Tryd.underlying4 _), (trodAll_cons_mk (Below.trod laidOut (by kernel_rfl) (of_decide_eq_true (by kernel_rfl)) k0 bel lt0) (trodAll_cons_mk (Below.trod laidOut (by kernel_rfl) (of_decide_eq_true (by kernel_rfl)) k1 bel lt1) trodAll_mk0)), rfl, bel.frame _, fun h => by cases h⟩

theorem over : Rows.engineNeverRow.holds Tryd.pinned (OpenSpec.ofChange Rows.engineNeverSpec) :=
  OpenClaim.holds_of_wide 5 Tryd.f5 rfl rfl rfl rfl rfl rfl rfl ⟨rfl, rfl, rfl, rfl, rfl⟩ rfl rfl rfl rfl rfl (by kernel_rfl) Tryd.func5 (by kernel_rfl)
    (of_decide_eq_true (by kernel_rfl)) (by unfold Func.isWrapper; first | (rw [if_pos (by decide +kernel)]; kernel_rfl) | (rw [if_neg (by decide +kernel)]; exact ⟨rfl, rfl⟩))
    (fun os started H enc _ => lifted os started H enc)

theorem proved : Rows.EngineNeverCardSaid :=
  Claim7.holds_tied_plain_at .later [] [.data, .pinned] true (true, "7d7c5906035f1852b68263b4beb5a7323e5046a3de23efaf4599aa5752d04a74") false over (fun _ h => by cases h) (by kernel_rfl) (fun _ h => by cases h) engineNever_row_tie rfl ⟨rfl, rfl⟩ (by kernel_rfl) rfl
    (fun f fn hf hfn => by
      obtain rfl : f = 5 := Option.some.inj ((show Tryd.prog.funcNamed "remuda/remudalaw27.EngineNever" = some 5 by kernel_rfl).symm.trans hf) |>.symm
      obtain rfl : fn = Tryd.f5 := (Option.some.inj (Tryd.func5.symm.trans hfn)).symm
      exact ⟨by kernel_rfl, fun j t ht => by
        rw [Tryd.params5] at ht
        have hm : t ∈ [26, 5] := by simpa using Array.mem_of_getElem? ht
        have hall : ([26, 5].all fun u => !Tryd.prog.wantsStandIn u) = true := by kernel_rfl
        exact (show Tryd.prog.wantsStandIn t = false by simpa using List.all_eq_true.1 hall t hm)⟩)
    (by kernel_rfl)
#print axioms proved
end Go.Proofs.YtmdapcmdlblnnaaDoor.engineNever
