/- An engine does any calls in any order as the document says. -/
import Derived.Test.YtmdapcmdlblnnaaDoorQAxSv
import Derived.Test.YtmdapcmdlblnnaaDoorQAxGe
import Derived.Test.YtmdapcmdlblnnaaDoorRows
import Derived.Test.YtmdapcmdlblnnaaDoorCards
import Derived.Test.YtmdapcmdlblnnaaDoorTie
import Derived.Test.YtmdapcmdlblnnaaDoorQElems
import Derived.Test.YtmdapcmdlblnnaaDoorQAxXr
import Derived.WalkKit
import Derived.ProofKit
import Derived.OpenShut
import Derived.ShutString
import Derived.ChangeOld
import Derived.Below
import Derived.LaidMore
import Derived.Lay
import Derived.SevenTiedAt
import Derived.Stop.Joined
/- Lists of texts that come in. -/
namespace Go.Proofs.YtmdapcmdlblnnaaDoor.Ax
open Go.RowKit Go By
set_option linter.unusedSimpArgs false
set_option linter.unusedVariables false
end Go.Proofs.YtmdapcmdlblnnaaDoor.Ax
/- Layer 27's statements: calls in a row. -/
namespace Go.Proofs.YtmdapcmdlblnnaaDoor.Ax
open Go.RowKit Go By Dg
set_option linter.unusedSimpArgs false
set_option linter.unusedVariables false
set_option maxRecDepth 10000

def elH (T : Eg) (L : List (List UInt8)) : List (List AV) := [T.cells, egC 0 T.n, edC 2 L T.n]
structure EL where
  T : Eg
  L : List (List UInt8)
  j : Nat
structure EL.Ok (m : Nat) (d : EL) : Prop where
  le : d.j ≤ m
  j60 : d.j ≤ 60
  a : d.T.a = 0
  ok : EgOk d.T
  n : d.T.n ≤ d.j
  len : d.L.length ≤ d.j
  has : ∀ s, d.L.contains s = d.T.no s
@[simp] theorem edC_1 (i : Nat) (L : List (List UInt8)) (n : Nat) : (edC i L n)[1]? = some (.v (.int .i64 (n : Int))) := of_eq_true (eq_self _)
@[simp] theorem edC_g1 (i : Nat) (L : List (List UInt8)) (n : Nat) (h : 1 < (edC i L n).length) : (edC i L n)[1] = .v (.int .i64 (n : Int)) := of_eq_true (eq_self _)
@[simp] theorem edC_len (i : Nat) (L : List (List UInt8)) (n : Nat) : (edC i L n).length = 2 := of_eq_true (eq_self _)
theorem elH_at {T : Eg} (ha : T.a = 0) (L : List (List UInt8)) (xs : List (List AV)) : EgAt (elH T L ++ xs) 1 T := ⟨by simp [elH, ha], by simp [elH, ha], by rw [ha]; decide⟩
theorem rowsV_bound (v : Vb) (n : Nat) (ps : List Cl) (hn : n ≤ 1000) (hp : ps.length ≤ 1000) : (rowsV v n ps).length ≤ 1000000 ∧ ∀ r ∈ rowsV v n ps, r.length ≤ 140737488355328 := by
  have hh := heldI_range v.n
  unfold rowsV
  split
  · refine ⟨by rw [rowsK_len]; omega, fun r hr => ?_⟩
    unfold rowsK at hr
    obtain ⟨q, _, rfl⟩ := List.mem_map.1 hr
    simp [rowK]
  · split
    · exact ⟨by simp, fun r hr => by rw [List.mem_singleton.1 hr]; omega⟩
    · split
      · exact ⟨by simp, fun r hr => by rw [List.mem_singleton.1 hr]; simp⟩
      · exact ⟨by simp, fun r hr => by cases hr⟩
theorem nextV_le (v : Vb) (n : Nat) : nextV v n ≤ n + 1 := by unfold nextV; split <;> omega
theorem eCount_x {T : Eg} (ha : T.a = 0) (L : List (List UInt8)) (x : List AV) : Contract Tryd.prog 17 [.box 1 0] [T.cells, egC 0 T.n, edC 2 L T.n, x] (.v (.int .i64 (T.n : Int))) [T.cells, egC 0 T.n, edC 2 L T.n, x] [] := ecount_c (elH_at ha L [x])
theorem eTurn_x {T : Eg} (ha : T.a = 0) (ho : EgOk T) (L : List (List UInt8)) (x : List AV) (k : List UInt8) (hk : k.length ≤ 300) : Contract Tryd.prog 8 [.box 1 0, .v (.string (strB k))] [T.cells, egC 0 T.n, edC 2 L T.n, x] (.v (.bool (!T.no k))) [(T.turn k).cells, egC 0 T.n, edC 2 L T.n, x] [0] := by
  have := eturn_c (elH_at ha L [x]) ho k (by omega)
  rw [ha] at this
  exact this
theorem eTurnD_x {T T' : Eg} (L : List (List UInt8)) (hl : L.length ≤ 1000) (hhas : ∀ s, L.contains s = T.no s) (x : List AV) (k : List UInt8) : Contract Tryd.prog 9 [.box 2 0, .v (.string (strB k))] [T'.cells, egC 0 T.n, edC 2 L T.n, x] (.v (.bool (!T.no k))) [T'.cells, egC 0 T.n, edC 2 (turnD L k) T.n, x] [2] := by
  have := return_c (h := [T'.cells, egC 0 T.n, edC 2 L T.n, x]) (i := 2) rfl (by omega) k
  rw [hhas k] at this
  exact this
theorem elH_turn {T : Eg} (ho : EgOk T) {L : List (List UInt8)} (hhas : ∀ s, L.contains s = T.no s) (k : List UInt8) : ∀ s, (turnD L k).contains s = (T.turn k).no s := fun s => by
  rw [turnD_has, Eg.no_turn ho, hhas, hhas]
set_option maxHeartbeats 2000000 in
theorem elives_c (l : List De) (hok : l.length ≤ reachBytes ∧ ∀ d ∈ l, OkDe d) : Contract Tryd.prog 3 [.sl 7 (enc deC l) none .no] [] (.v (.bool true)) [] [] := by
  refine contract_of k3 mixed (by simp [c3]) fun hh hargs => ?_
  have hnew := enew_c []
  simp [egC] at hnew
  simp [c3]
  refine xcall_self (by simp) hnew ?_
  simp
  refine xloop_ok (D := EL) (fun d => ⟨[(3, .box 1 0), (4, .box 2 0), (17, .sl 7 (enc deC l) none .no), (18, .v (.int .i64 (l.length : Int))), (19, .v (.int .i64 (d.j : Int)))], [], elH d.T d.L, []⟩) (EL.Ok l.length) (fun d => l.length - d.j) ⟨newE 0, [], 0⟩ ⟨Nat.zero_le _, Nat.zero_le _, rfl, newE_ok 0, Nat.le_refl _, Nat.le_refl _, fun s => rfl⟩ ?_ ?_
  · simp [Leq, elH, egC, edC, newE, Eg.cells, mapC]
    done
  · rintro ⟨T, L, j⟩ ⟨hj, h60, ha, ho, hn, hl, hhas⟩
    dsimp only at hj h60 ha ho hn hl hhas
    have hcl := T.lt
    by_cases hlt : j < l.length
    · by_cases hj60 : j = 60
      · subst hj60
        have h61 : (60 : Int) < l.length := by omega
        simp [hlt, h61, elH]
        refine xcall_self (by simp) (eaborted_c _) ?_
        simp
        refine xcall_self (by simp) (eraborted_c _) ?_
        simp
        refine xcall_self (by simp) (eawake_c _) ?_
        simp [hh, leqH_take]
        done
      · have hj59 : ¬ (60 : Int) ≤ j := by omega
        have hw : IntKind.i64.wrap ((j : Int) + 1) = (j : Int) + 1 := wrap64 (by omega) (by omega)
        obtain ⟨_, hdp, hdc⟩ := hok.2 _ (List.getElem_mem hlt)
        obtain ⟨d, hd⟩ : ∃ d, d = l[j] := ⟨_, rfl⟩
        rw [← hd] at hdp hdc
        by_cases ht3 : (300 : Int) < d.text.length
        · simp [hlt, hj59, elH, ← hd, ht3]
          refine xcall_self (by simp) (eaborted_c _) ?_
          simp
          refine xcall_self (by simp) (eraborted_c _) ?_
          simp
          refine xcall_self (by simp) (eawake_c _) ?_
          simp [hh, leqH_take]
          done
        by_cases hp2 : (20 : Int) < d.ps.length
        · simp [hlt, hj59, elH, ← hd, ht3, hp2]
          refine xcall_self (by simp) (eaborted_c _) ?_
          simp
          refine xcall_self (by simp) (eraborted_c _) ?_
          simp
          refine xcall_self (by simp) (eawake_c _) ?_
          simp [hh, leqH_take]
          done
        have hpl : d.ps.length ≤ 20 := by omega
        have htl : d.text.length ≤ 300 := by omega
        have hcell : ∀ c ∈ d.ps, c.2.length ≤ 140737488351232 := fun c hc => (hdc c hc).2
        simp [hlt, hj59, elH, ← hd, ht3, hp2]
        have hnext : j + 1 ≤ l.length := hlt
        have hmu : l.length - (j + 1) < l.length - j := by omega
        by_cases o0 : d.op = 0
        · have hok' : EL.Ok l.length ⟨T.turn d.text, turnD L d.text, j + 1⟩ := ⟨hnext, by show j + 1 ≤ 60; omega, by show (T.turn d.text).a = 0; rw [Eg.turn_a, ha], ho.turn _, by show (T.turn d.text).n ≤ j + 1; rw [Eg.turn_n]; omega, Nat.le_trans (turnD_len _ _) (by show L.length + 1 ≤ j + 1; omega), elH_turn ho hhas _⟩
          have hcn := eCount_x (T := T.turn d.text) (by rw [Eg.turn_a, ha]) (turnD L d.text) (deC d)
          rw [Eg.turn_n] at hcn
          have hlc := (T.turn d.text).lt
          simp [o0]
          refine xcall_self (by simp) (eTurn_x ha ho L _ d.text htl) ?_
          simp
          refine xcall_self (by simp) (eTurnD_x (T := T) (T' := T.turn d.text) L (by omega) hhas _ d.text) ?_
          simp
          refine xcall_self (by simp) hcn ?_
          simp [hw]
          refine ⟨_, hok', hmu, ?_⟩
          simp [Leq, elH, edC, egC, Eg.turn_n, hlc, hh]
          done
        by_cases o1 : d.op = 1
        · have hok' : EL.Ok l.length ⟨{ T with n := T.n + 1 }, L, j + 1⟩ := ⟨hnext, by show j + 1 ≤ 60; omega, ha, ⟨ho.ok⟩, by show T.n + 1 ≤ j + 1; omega, Nat.le_succ_of_le hl, hhas⟩
          have hcn := eCount_x (T := { T with n := T.n + 1 }) ha L (deC d)
          have k1 := enext_c (elH_at ha L [deC d]) (by omega)
          have k2 := renext_c (h := [T.cells, egC T.a (T.n + 1), edC 2 L T.n, deC d]) (i := 2) rfl (by omega)
          simp [elH] at k1
          simp at k2
          have hcc : ({ T with n := T.n + 1 } : Eg).cells = T.cells := rfl
          rw [hcc] at hcn
          rw [ha] at k1 k2
          simp at hcn
          simp [o0, o1]
          refine xcall_self (by simp) k1 ?_
          simp
          refine xcall_self (by simp) k2 ?_
          simp
          refine xcall_self (by simp) hcn ?_
          simp [hw]
          refine ⟨_, hok', hmu, ?_⟩
          simp [Leq, elH, edC, egC, hcl, hh, hcc]
          done
        have o0' : (d.op == 0) = false := by simpa using o0
        have o1' : (d.op == 1) = false := by simpa using o1
        by_cases o2 : d.op = 2
        · have hnx := nextV_le d.v T.n
          have hok' : EL.Ok l.length ⟨{ T with n := nextV d.v T.n }, L, j + 1⟩ := ⟨hnext, by show j + 1 ≤ 60; omega, ha, ⟨ho.ok⟩, by show nextV d.v T.n ≤ j + 1; omega, Nat.le_succ_of_le hl, hhas⟩
          have hcn := eCount_x (T := { T with n := nextV d.v T.n }) ha L (deC d)
          have k1 := erows_c (elH_at ha L [deC d]) (by omega) d.v d.ps (by omega) hcell
          have k2 := rerows_c (h := [T.cells, egC 0 (nextV d.v T.n), edC 2 L T.n, deC d]) (i := 2) rfl (by omega) d.v d.ps (by omega)
          obtain ⟨r1, r2⟩ := rowsV_bound d.v T.n d.ps (by omega) (by omega)
          simp [elH, ha] at k1
          simp at k2
          have hcc : ({ T with n := nextV d.v T.n } : Eg).cells = T.cells := rfl
          rw [hcc] at hcn
          simp at hcn
          simp [o0, o1, o0', o1', o2]
          refine xcall_self (by simp) k1 ?_
          simp
          refine xcall_self (by simp) k2 ?_
          simp
          refine xcall_self (by simp) (lrows_c _ r1 r2 _) ?_
          simp
          refine xcall_self (by simp) hcn ?_
          simp [hw]
          refine ⟨_, hok', hmu, ?_⟩
          simp [Leq, elH, edC, egC, hcl, hh, hcc]
          done
        have o2' : (d.op == 2) = false := by simpa using o2
        have hok' : EL.Ok l.length ⟨T, L, j + 1⟩ := ⟨hnext, by show j + 1 ≤ 60; omega, ha, ho, Nat.le_succ_of_le hn, Nat.le_succ_of_le hl, hhas⟩
        have hcn := eCount_x ha L (deC d)
        have k1 := everdict_c (elH_at ha L [deC d]) d.text (by omega) d.st
        have k2 := reverdict_c (h := [T.cells, egC 0 T.n, edC 2 L T.n, deC d]) (i := 2) rfl (by omega) d.text (by omega) d.st
        rw [hhas] at k2
        simp [elH] at k1
        generalize verdict (T.no d.text) (sayQ (trimL d.text)) d.st = x at k1 k2
        simp [o0, o1, o2, o0', o1', o2']
        refine xcall_self (by simp) k1 ?_
        simp [vdV]
        refine xcall_self (by simp) k2 ?_
        simp [vdV]
        refine xcall_self (by simp) hcn ?_
        simp [hw]
        refine ⟨_, hok', hmu, ?_⟩
        simp [Leq, elH, edC, egC, hcl, hh]
        done
    · have : j = l.length := by omega
      subst this
      simp [elH]
      refine xcall_self (by simp) (eaborted_c _) ?_
      simp
      refine xcall_self (by simp) (eraborted_c _) ?_
      simp
      refine xcall_self (by simp) (eawake_c _) ?_
      simp [hh, leqH_take]
      done
end Go.Proofs.YtmdapcmdlblnnaaDoor.Ax
namespace Go.Proofs.YtmdapcmdlblnnaaDoor.engineLives
open Go.ChangeShapes Go.WideShapes Go.ChangeAt Go.RowKit
open Go.ChangeMaps (open_string shut_string)
set_option linter.unusedVariables false

theorem own : ownKnob Tryd.prog.godebug = none := by kernel_rfl
theorem laidOut : laidOutB Tryd.prog = true := by kernel_rfl

set_option maxRecDepth 100000 in
theorem lifted (os : Os) (started : os.Started) (H : Type) (enc : TypeId × Value → H) :
    ReturnsInHanded {} Tryd.checked os 3 .any (fun w args => (Rows.engineLivesSpec.pre enc Tryd.prog Tryd.f3 Rows.engineLivesRow.domain false w args ∧ laidMetH Tryd.prog Rows.engineLivesRow.laid w) ∧ sizedMet enc Tryd.prog Tryd.f3 (OpenSpec.ofChange Rows.engineLivesSpec) false w args) (Rows.engineLivesSpec.post enc Tryd.prog Tryd.f3 false true false false) := by
  refine returnsInHanded_of_change_and (C := Tryd.checked) (X := fun w _ => laidMetH Tryd.prog Rows.engineLivesRow.laid w) (fun _ _ _ hh h => h.of_heap hh) own started (by kernel_rfl) Tryd.func3
    (ChangeSpec.witness_shaped (enc := enc) (C := Tryd.checked) (os := os) (X := fun w _ => laidMetH Tryd.prog Rows.engineLivesRow.laid w) false (World.laidAll Tryd.prog os Rows.engineLivesRow.laid) #[.slice none 0 0] 8 (World.laidAll_os _ _ _)
      (World.shaped_of_ZipB (by kernel_rfl) (by kernel_rfl)) (by kernel_rfl) (by kernel_rfl) (by kernel_rfl)
      (by rw [MakeChecks.laidMetH_plain _ _ _ (by kernel_rfl)]; exact laidMet_laidAll _ (by kernel_rfl) (by kernel_rfl))) ?_
  intro W base args ds gs before hval0 hW hcnd hreach hL _
  have hval : ∀ (j : Nat) t v, Tryd.f3.params[j]? = some t → args[j]? = some v → Value.okWide Tryd.prog W .any base t v := hval0
  have hW' := hW
  obtain ⟨p, q, hA0, hV, rfl, hfz, hnd⟩ := hW
  have hA : DataW.TrodAll enc Tryd.prog W 0 (fun _ => true) true Tryd.f3.params.toList args.toList ds p := hA0
  rw [Tryd.params3] at hA hval
  obtain ⟨v0, vs0, d0, ds0, p0, q0, hargs, rfl, rfl, h0, r0⟩ := trodAll_cons hA
  obtain ⟨rfl, rfl, rfl⟩ := trodAll_nil r0
  obtain rfl : args = #[v0] := by cases args; simp_all
  obtain ⟨rfl, rfl⟩ := trodVars_none hV
  have k0 := h0
  have lt0 : ∀ x ∈ p0, x.block < W.heap.size := by obtain ⟨m, hm⟩ := k0; exact DataW.trod_lt m _ _ _ hm
  obtain ⟨a0, ok0, s0⟩ := Ax.argR_slice Tryd.underlying22 Ax.sh_deRL (hval 0 22 v0 rfl rfl) h0 (Ax.reached_of hreach (j := 0) rfl rfl)
  clear hA0 hval0 hreach
  refine (Ax.law_walk (w := W) (Ax.dom_any W) (Ax.elives_c a0 ok0) (by simp) (.cons s0 .nil)).mono fun e W' ⟨he, bel⟩ => ?_
  subst he
  exact ⟨_, rfl, _, _, _, [], _, [], hW', trodAll_mk1 (shut_bool Tryd.underlying4 _), (trodAll_cons_mk (Below.trod laidOut (by kernel_rfl) (of_decide_eq_true (by kernel_rfl)) k0 bel lt0) trodAll_mk0), rfl, bel.frame _, fun h => by cases h⟩

theorem over : Rows.engineLivesRow.holds Tryd.pinned (OpenSpec.ofChange Rows.engineLivesSpec) :=
  OpenClaim.holds_of_wide 3 Tryd.f3 rfl rfl rfl rfl rfl rfl rfl ⟨rfl, rfl, rfl, rfl, rfl⟩ rfl rfl rfl rfl rfl (by kernel_rfl) Tryd.func3 (by kernel_rfl)
    (of_decide_eq_true (by kernel_rfl)) (by unfold Func.isWrapper; first | (rw [if_pos (by decide +kernel)]; kernel_rfl) | (rw [if_neg (by decide +kernel)]; exact ⟨rfl, rfl⟩))
    (fun os started H enc _ => lifted os started H enc)

theorem proved : Rows.EngineLivesCardSaid :=
  Claim7.holds_tied_plain_at .later [] [.data, .pinned] true (true, "7d7c5906035f1852b68263b4beb5a7323e5046a3de23efaf4599aa5752d04a74") false over (fun _ h => by cases h) (by kernel_rfl) (fun _ h => by cases h) engineLives_row_tie rfl ⟨rfl, rfl⟩ (by kernel_rfl) rfl
    (fun f fn hf hfn => by
      obtain rfl : f = 3 := Option.some.inj ((show Tryd.prog.funcNamed "remuda/remudalaw27.EngineLives" = some 3 by kernel_rfl).symm.trans hf) |>.symm
      obtain rfl : fn = Tryd.f3 := (Option.some.inj (Tryd.func3.symm.trans hfn)).symm
      exact ⟨by kernel_rfl, fun j t ht => by
        rw [Tryd.params3] at ht
        have hm : t ∈ [22] := by simpa using Array.mem_of_getElem? ht
        have hall : ([22].all fun u => !Tryd.prog.wantsStandIn u) = true := by kernel_rfl
        exact (show Tryd.prog.wantsStandIn t = false by simpa using List.all_eq_true.1 hall t hm)⟩)
    (by kernel_rfl)
#print axioms proved
end Go.Proofs.YtmdapcmdlblnnaaDoor.engineLives
