/- A portal's set does any calls in any order as the document says: of whatever list of calls, both answer alike, and are the same behind. -/
import Derived.Test.YtmdapcmdlblnnaaQAxXr
import Derived.Test.YtmdapcmdlblnnaaRows
import Derived.Test.YtmdapcmdlblnnaaQAxPr
import Derived.Test.YtmdapcmdlblnnaaQElems
import Derived.SizedLaws
import Derived.WalkKit
import Derived.ProofKit
import Derived.OpenShut
import Derived.ShutString
import Derived.ChangeOld
import Derived.Below
/- The texts of functions over values without memory, as the kernel reckons them out of the program. -/
namespace Go.Proofs.Ytmdapcmdlblnnaa.Ax
open Go.RowKit Go By

def c31 : XFun := ⟨17, (.seq (.ops [⟨(some 2), (.box (.tmp 0)), none⟩, ⟨(some 3), (.box (.tmp 1)), none⟩, ⟨(some 4), (.assign (.const (.bool false))), none⟩]) (.seq (.ops [⟨(some 5), (.faddr 0 (.tmp 2)), none⟩, ⟨(some 6), (.load1 (.tmp 5)), none⟩, ⟨(some 7), (.faddr 0 (.tmp 3)), none⟩, ⟨(some 8), (.load1 (.tmp 7)), none⟩, ⟨(some 9), (.bin .eql (.tmp 6) (.tmp 8)), none⟩, ⟨(some 10), (.move (.tmp 9)), none⟩, ⟨(some 11), (.faddr 1 (.tmp 2)), (some (10, true))⟩, ⟨(some 12), (.load1 (.tmp 11)), (some (10, true))⟩, ⟨(some 13), (.faddr 1 (.tmp 3)), (some (10, true))⟩, ⟨(some 14), (.load1 (.tmp 13)), (some (10, true))⟩, ⟨(some 15), (.call 37 [(.tmp 12), (.tmp 14)]), (some (10, true))⟩, ⟨(some 16), (.pick (.tmp 10) (.tmp 15) (.const (.bool false))), none⟩, ⟨(some 4), (.assign (.tmp 16)), none⟩]) .ret)), [(.move (.tmp 4))]⟩
theorem k31 : cfun Try.prog 31 = some c31 := by kernel_rfl
end Go.Proofs.Ytmdapcmdlblnnaa.Ax
/- Layer 28's statements: portals do any calls in any order; what comes in, and its parts. -/
namespace Go.Proofs.Ytmdapcmdlblnnaa.Ax
open Go.RowKit Go By
set_option linter.unusedSimpArgs false
set_option linter.unusedVariables false
set_option maxRecDepth 10000

/-- A call. -/
structure Dl where
  op : Int
  n : Int
  name : List UInt8
  p : Pt
  rows : List (List Cl)
def dlC (d : Dl) : List AV := [.v (.int .i64 d.op), .v (.int .i64 d.n), .v (.string (strB d.name)), .v (.string (strB d.p.text)), .sl 1 (enc intC d.p.oids) none .no, .sl 2 (enc cellC d.p.ps) none .no, .sl 1 (enc rowKC d.p.rows) none .no, .v (.bool d.p.ran), .v (.bool d.p.over), .sl 1 (enc rowKC d.rows) none .no]
@[simp] theorem dlC_len (d : Dl) : (dlC d).length = 10 := of_eq_true (eq_self _)
@[simp] theorem dlC_unown (d : Dl) : (dlC d).map AV.unown = dlC d := of_eq_true (eq_self _)
@[simp] theorem dlC_take (d : Dl) : List.take 10 (dlC d) = dlC d := of_eq_true (eq_self _)
@[simp] theorem dlC_0 (d : Dl) : (dlC d)[0]? = some (.v (.int .i64 d.op)) := of_eq_true (eq_self _)
@[simp] theorem dlC_1 (d : Dl) : (dlC d)[1]? = some (.v (.int .i64 d.n)) := of_eq_true (eq_self _)
@[simp] theorem dlC_2 (d : Dl) : (dlC d)[2]? = some (.v (.string (strB d.name))) := of_eq_true (eq_self _)
@[simp] theorem dlC_3 (d : Dl) : (dlC d)[3]? = some (.v (.string (strB d.p.text))) := of_eq_true (eq_self _)
@[simp] theorem dlC_4 (d : Dl) : (dlC d)[4]? = some (.sl 1 (enc intC d.p.oids) none .no) := of_eq_true (eq_self _)
@[simp] theorem dlC_5 (d : Dl) : (dlC d)[5]? = some (.sl 2 (enc cellC d.p.ps) none .no) := of_eq_true (eq_self _)
@[simp] theorem dlC_6 (d : Dl) : (dlC d)[6]? = some (.sl 1 (enc rowKC d.p.rows) none .no) := of_eq_true (eq_self _)
@[simp] theorem dlC_9 (d : Dl) : (dlC d)[9]? = some (.sl 1 (enc rowKC d.rows) none .no) := of_eq_true (eq_self _)
@[simp] theorem dlC_g0 (d : Dl) (h : 0 < (dlC d).length) : (dlC d)[0] = .v (.int .i64 d.op) := of_eq_true (eq_self _)
@[simp] theorem dlC_g1 (d : Dl) (h : 1 < (dlC d).length) : (dlC d)[1] = .v (.int .i64 d.n) := of_eq_true (eq_self _)
@[simp] theorem dlC_g2 (d : Dl) (h : 2 < (dlC d).length) : (dlC d)[2] = .v (.string (strB d.name)) := of_eq_true (eq_self _)
@[simp] theorem dlC_g3 (d : Dl) (h : 3 < (dlC d).length) : (dlC d)[3] = .v (.string (strB d.p.text)) := of_eq_true (eq_self _)
@[simp] theorem dlC_g4 (d : Dl) (h : 4 < (dlC d).length) : (dlC d)[4] = .sl 1 (enc intC d.p.oids) none .no := of_eq_true (eq_self _)
@[simp] theorem dlC_g5 (d : Dl) (h : 5 < (dlC d).length) : (dlC d)[5] = .sl 2 (enc cellC d.p.ps) none .no := of_eq_true (eq_self _)
@[simp] theorem dlC_g6 (d : Dl) (h : 6 < (dlC d).length) : (dlC d)[6] = .sl 1 (enc rowKC d.p.rows) none .no := of_eq_true (eq_self _)
@[simp] theorem dlC_g9 (d : Dl) (h : 9 < (dlC d).length) : (dlC d)[9] = .sl 1 (enc rowKC d.rows) none .no := of_eq_true (eq_self _)
@[simp] theorem dlC_p (d : Dl) : List.take 6 (List.drop 3 (dlC d)) = ptV d.p := of_eq_true (eq_self _)
theorem dlC_mk (d : Dl) : dlC d = [.v (.int .i64 d.op), .v (.int .i64 d.n), .v (.string (strB d.name)), .v (.string (strB d.p.text)), .sl 1 (enc intC d.p.oids) none .no, .sl 2 (enc cellC d.p.ps) none .no, .sl 1 (enc rowKC d.p.rows) none .no, .v (.bool d.p.ran), .v (.bool d.p.over), .sl 1 (enc rowKC d.rows) none .no] := rfl
@[simp] theorem dlC_lt (n : Nat) (d : Dl) : ltL n (dlC d) := by simp [dlC_mk]
theorem dlC_id (d : Dl) : ∀ c ∈ dlC d, c.idOf = none := by simp [dlC_mk]
@[simp] theorem ltLL_dlC (n : Nat) (l : List Dl) : ltLL n (enc dlC l) := ltLL_enc _ n (dlC_lt n) l
@[simp] theorem ptV_len (p : Pt) : (ptV p).length = 6 := of_eq_true (eq_self _)
@[simp] theorem ptV_unown (p : Pt) : (ptV p).map AV.unown = ptV p := of_eq_true (eq_self _)
@[simp] theorem ptV_take (p : Pt) : List.take 6 (ptV p) = ptV p := of_eq_true (eq_self _)
@[simp] theorem ptV_lt (n : Nat) (p : Pt) : ltL n (ptV p) := by simp [ptV, ptC]
theorem ptV_id (p : Pt) : ∀ c ∈ ptV p, c.idOf = none := ptC_id rfl
/-! ### What comes in -/
def OkRows (l : List (List Cl)) : Prop := l.length ≤ reachBytes ∧ ∀ r ∈ l, r.length * 32 ≤ reachBytes ∧ ∀ x ∈ r, True ∧ x.2.length ≤ reachBytes
def OkPt (p : Pt) : Prop := (p.ps.length * 32 ≤ reachBytes ∧ ∀ x ∈ p.ps, True ∧ x.2.length ≤ reachBytes) ∧ OkRows p.rows
theorem sh_ptR : ShapeR Try.prog 37 ptV OkPt := by
  have h0 : ShapeR Try.prog 37 (fun p : Sm × List Cl × List (List Cl) × Bool × Bool => smC p.1 ++ ([AV.sl 2 (enc cellC p.2.1) none .no] ++ ([AV.sl 1 (enc rowKC p.2.2.1) none .no] ++ ([AV.v (.bool p.2.2.2.1)] ++ [AV.v (.bool p.2.2.2.2)])))) (fun p => OkSm p.1 ∧ (p.2.1.length * 32 ≤ reachBytes ∧ ∀ x ∈ p.2.1, True ∧ x.2.length ≤ reachBytes) ∧ OkRows p.2.2.1 ∧ True ∧ True) := shapeR_struct Try.underlying37 (by kernel_rfl) (shapeR_cons (k := 2) rfl (by kernel_rfl) sh_smC.reach (by kernel_rfl) (shapeR_cons (k := 1) rfl (by kernel_rfl) sh_cellRB (by kernel_rfl) (shapeR_cons (k := 1) rfl (by kernel_rfl) sh_rowRL (by kernel_rfl)
    (shapeR_cons (k := 1) rfl (by kernel_rfl) sh_bool.reach (by kernel_rfl) (shapeR_one (k := 1) rfl (by kernel_rfl) sh_bool.reach)))))
  intro H
  exact ShapeR.map (f' := ptV) (ok' := OkPt) @h0 (fun p => (⟨p.1.text, p.1.oids, p.2.1, p.2.2.1, p.2.2.2.1, p.2.2.2.2⟩ : Pt)) (fun _ => rfl) (fun _ h => And.intro h.2.1 h.2.2.1)
def OkDl (d : Dl) : Prop := OkPt d.p ∧ OkRows d.rows
theorem sh_dlR : ShapeR Try.prog 39 dlC OkDl :=
  ShapeR.map (shapeR_struct Try.underlying39 (by kernel_rfl) (shapeR_cons (k := 1) rfl (by kernel_rfl) sh_int.reach (by kernel_rfl) (shapeR_cons (k := 1) rfl (by kernel_rfl) sh_int.reach (by kernel_rfl) (shapeR_cons (k := 1) rfl (by kernel_rfl) (shapeR_str Try.underlying9) (by kernel_rfl)
    (shapeR_cons (k := 6) rfl (by kernel_rfl) sh_ptR (by kernel_rfl) (shapeR_one (k := 1) rfl (by kernel_rfl) sh_rowRL)))))) (fun p => ⟨p.1, p.2.1, p.2.2.1, p.2.2.2.1, p.2.2.2.2⟩) (fun _ => rfl) (fun _ h => ⟨h.2.2.2.1, h.2.2.2.2⟩)
theorem sh_dlRL : ShapeR Try.prog 22 (fun l : List Dl => [.sl 10 (enc dlC l) none .no]) (fun l => l.length ≤ reachBytes ∧ ∀ d ∈ l, OkDl d) := shapeR_slice Try.underlying22 (by kernel_rfl) (by decide) (of_decide_eq_true (by kernel_rfl)) sh_dlR (fun _ => rfl)
/-! ### Few -/
def fewD (d : Dl) : Bool := !(decide ((100 : Int) < d.name.length) || decide ((20 : Int) < d.rows.length) || decide ((20 : Int) < d.p.rows.length) || decide ((20 : Int) < d.p.ps.length) || decide ((100 : Int) < d.p.text.length) || decide ((20 : Int) < d.p.oids.length))
def fewL (l : List Dl) : Bool := decide (l.length ≤ 40) && l.all fewD
theorem fewL_no {l : List Dl} {j : Nat} (hj : j < l.length) (h : fewD l[j] = false ∨ 40 ≤ j) : fewL l = false := by
  unfold fewL
  rcases h with h | h
  · have : l.all fewD = false := List.all_eq_false.2 ⟨_, List.getElem_mem hj, by simp [h]⟩
    rw [this, Bool.and_false]
  · rw [decide_eq_false (by omega), Bool.false_and]
theorem pfew_c (l : List Dl) (h : List (List AV)) : Contract Try.prog 6 [.sl 10 (enc dlC l) none .no] h (.v (.bool (fewL l))) h [] := by
  refine contract_of k6 mixed (by simp [c6]) fun hh hargs => ?_
  simp [c6]
  refine xloop_ok (D := Nat) (fun j => ⟨[(5, .sl 10 (enc dlC l) none .no), (6, .v (.int .i64 (l.length : Int))), (7, .v (.int .i64 (j : Int)))], [], h, []⟩) (fun j => j ≤ l.length ∧ j ≤ 40 ∧ ∀ q (hq : q < l.length), q < j → fewD l[q] = true) (fun j => l.length - j) 0 ⟨by omega, by omega, fun q hq h => by omega⟩ ?_ ?_
  · simp [Leq, hh]
    done
  · rintro j ⟨hj, hj40, hall⟩
    by_cases hlt : j < l.length
    · have hw : IntKind.i64.wrap ((j : Int) + 1) = (j : Int) + 1 := wrap64 (by omega) (by omega)
      obtain ⟨d, hd⟩ : ∃ d, d = l[j] := ⟨_, rfl⟩
      by_cases h40 : (40 : Int) ≤ j
      · have hf := fewL_no hlt (.inr (by omega))
        simp [hlt, ← hd, h40, hf, hh, leqH_take]
        done
      by_cases hb : fewD l[j] = true
      · have hb' := hb
        rw [← hd] at hb'
        unfold fewD at hb'
        simp at hb'
        obtain ⟨⟨⟨⟨⟨n1, n2⟩, n3⟩, n4⟩, n5⟩, n6⟩ := hb'
        have m1 : ¬ (100 : Int) < d.name.length := by omega
        have m2 : ¬ (20 : Int) < d.rows.length := by omega
        have m3 : ¬ (20 : Int) < d.p.rows.length := by omega
        have m4 : ¬ (20 : Int) < d.p.ps.length := by omega
        have m5 : ¬ (100 : Int) < d.p.text.length := by omega
        have m6 : ¬ (20 : Int) < d.p.oids.length := by omega
        simp [hlt, ← hd, h40, m1, m2, m3, m4, m5, m6, hw]
        refine ⟨j + 1, ⟨hlt, by omega, fun q hq hqj => ?_⟩, by omega, ?_⟩
        · rcases Nat.lt_succ_iff_lt_or_eq.1 hqj with h3 | h3
          · exact hall q hq h3
          · subst h3; exact hb
        · simp [Leq, hh, leqH_take]
      · have hf := fewL_no hlt (.inl (by simpa using hb))
        rw [← hd] at hb
        unfold fewD at hb
        by_cases m1 : (100 : Int) < d.name.length
        · simp [hlt, ← hd, h40, m1, hf, hh, leqH_take]
          done
        by_cases m2 : (20 : Int) < d.rows.length
        · simp [hlt, ← hd, h40, m1, m2, hf, hh, leqH_take]
          done
        by_cases m3 : (20 : Int) < d.p.rows.length
        · simp [hlt, ← hd, h40, m1, m2, m3, hf, hh, leqH_take]
          done
        by_cases m4 : (20 : Int) < d.p.ps.length
        · simp [hlt, ← hd, h40, m1, m2, m3, m4, hf, hh, leqH_take]
          done
        by_cases m5 : (100 : Int) < d.p.text.length
        · simp [hlt, ← hd, h40, m1, m2, m3, m4, m5, hf, hh, leqH_take]
          done
        by_cases m6 : (20 : Int) < d.p.oids.length
        · simp [hlt, ← hd, h40, m1, m2, m3, m4, m5, m6, hf, hh, leqH_take]
          done
        exact absurd (by simp [m1, m2, m3, m4, m5, m6]) hb
    · have : j = l.length := by omega
      subst this
      have hf : fewL l = true := by
        unfold fewL
        rw [decide_eq_true hj40, Bool.true_and]
        refine List.all_eq_true.2 fun d hd => ?_
        obtain ⟨q, hq, rfl⟩ := List.getElem_of_mem hd
        exact hall q hq hq
      simp [hf, hh]
      done
theorem fewL_yes {l : List Dl} (h : fewL l = true) (ok : ∀ d ∈ l, OkDl d) : l.length ≤ 40 ∧ ∀ d ∈ l, d.name.length ≤ 100 ∧ RowsFit d.rows ∧ d.p.fit := by
  unfold fewL at h
  simp only [Bool.and_eq_true, decide_eq_true_eq, List.all_eq_true] at h
  refine ⟨h.1, fun d hd => ?_⟩
  have hb := h.2 d hd
  unfold fewD at hb
  simp at hb
  obtain ⟨⟨⟨⟨⟨n1, n2⟩, n3⟩, n4⟩, n5⟩, n6⟩ := hb
  obtain ⟨⟨⟨o1, o2⟩, o3⟩, o4⟩ := ok d hd
  have hr : reachBytes = 140737488351232 := rfl
  exact ⟨by omega, rowsFit_of (by omega) o4.2, by omega, by omega, ⟨by omega, fun c hc => by have := (o2 c hc).2; omega⟩, rowsFit_of (by omega) o3.2⟩
/-! ### The same -/
theorem psame_c (p : Pt) (hf : p.fit) (h : List (List AV)) : Contract Try.prog 21 [.agg (ptV p), .agg (ptV p)] h (.v (.bool true)) h [] := by
  obtain ⟨f1, f2, ⟨f3, _⟩, f4⟩ := hf
  obtain ⟨f5, f6⟩ := RowsFit.small f4
  have hs : ∀ h, Contract Try.prog 31 [.agg [.v (.string (strB p.text)), .sl 1 (enc intC p.oids) none .no], .agg [.v (.string (strB p.text)), .sl 1 (enc intC p.oids) none .no]] h (.v (.bool true)) h [] := fun h => by
    refine contract_of k31 mixed (by simp [c31]) fun hh hargs => ?_
    simp [c31]
    refine xcall_self (by simp) (rints_c _ _ (by omega) _) ?_
    simp [hh, leqH_take]
  refine contract_of k21 mixed (by simp [c21]) fun hh hargs => ?_
  simp [c21, ptV, ptC]
  refine xcall_self (by simp) (hs _) ?_
  simp
  refine xcall_self (by simp) (rcells_c _ _ (by omega) _) ?_
  simp
  refine xcall_self (by simp) (lrows28_c _ f5 f6 _) ?_
  simp [hh, leqH_take]
end Go.Proofs.Ytmdapcmdlblnnaa.Ax
/- Layer 28's statements: portals do any calls in any order. -/
namespace Go.Proofs.Ytmdapcmdlblnnaa.Ax
open Go.RowKit Go By
set_option linter.unusedSimpArgs false
set_option linter.unusedVariables false
set_option maxRecDepth 10000

section
variable {T : List (Nat × List AV)} {h : List (List AV)} {S : Ps} {b : Nat} {L : List Sl28}
theorem PlG.wipe (g : PlG T h S b L) : PlG T (h.set 2 [.sl 0 [] (some true) .exact]) S b [] := by
  have h2 := g.d.i_lt
  have hlt : ltLL (h.set 2 [.sl 0 [] (some true) .exact]).length (h.set 2 [.sl 0 [] (some true) .exact]) := by rw [List.length_set]; exact ltLL_set g.p.lt (by simp)
  refine ⟨g.p.move (List.getElem?_set_ne (by decide)) (fun q hq => List.getElem?_set_ne fun e => by subst e; exact g.v2 hq) hlt, ⟨List.getElem?_set_self h2, (fun hne => absurd rfl hne), (fun hne => absurd rfl hne), hlt⟩, g.v2, (fun hne => absurd rfl hne), fun t ht => ?_, plainH_set g.pl (by simp) _⟩
  obtain ⟨t1, t2, t3, _⟩ := g.tmp t ht
  exact ⟨by rw [List.getElem?_set_ne (Ne.symm t3)]; exact t1, t2, t3, fun hne => absurd rfl hne⟩
theorem PlO.clear : PlO S.clear [] := ⟨PsOk.clear, List.Pairwise.nil, fun k => rfl⟩
end
structure PL where
  H : List (List AV)
  S : Ps
  b : Nat
  L : List Sl28
  j : Nat
structure PL.Ok (m : Nat) (d : PL) : Prop where
  le : d.j ≤ m
  g : PlG [] d.H d.S d.b d.L
  o : PlO d.S d.L
  len : d.L.length ≤ d.j
structure PM where
  H : List (List AV)
  S : Ps
  b : Nat
  L : List Sl28
structure PM.Ok (a : Nat) (c : List AV) (n : Nat) (d : PM) : Prop where
  g : PlG [(a, c)] d.H d.S d.b d.L
  o : PlO d.S d.L
  len : d.L.length ≤ n
set_option maxHeartbeats 4000000 in
theorem plives_c (l : List Dl) (hok : l.length ≤ reachBytes ∧ ∀ d ∈ l, OkDl d) : Contract Try.prog 3 [.sl 10 (enc dlC l) none .no] [] (.v (.bool true)) [] [] := by
  refine contract_cut (XCode.inside (XCode.cuts [false, false, true]) [1, 1, 1, 0, 1, 0, 0, 1, 1, 0, 0] c3.code) k3 rfl mixed (by simp [c3]) fun hh hargs => ?_
  simp [c3]
  refine xcall_self (by simp) (pfew_c l _) ?_
  cases hfew : fewL l with
  | false =>
    simp
    refine xcall_self (by simp) (pawake_c _) ?_
    simp
    done
  | true =>
    obtain ⟨hl40, hall⟩ := fewL_yes hfew hok.2
    have g0 : PlG [] [mapC 0 [], [.mp 0 1 true], [.sl 0 [] (some true) .exact]] (newS 0) 0 [] := by
      have r0 := (newS_at (h := []) trivial).app [[.sl 0 [] (some true) .exact]] (by simp)
      exact ⟨r0, ⟨rfl, (fun hne => absurd rfl hne), (fun hne => absurd rfl hne), r0.lt⟩, by simp [Ps.vars, newS], (fun hne => absurd rfl hne), (fun t ht => by cases ht), fun x hx => by simp [mapC] at hx; rcases hx with rfl | rfl | rfl <;> simp⟩
    have o0 : PlO (newS 0) [] := ⟨newS_ok 0, List.Pairwise.nil, fun k => rfl⟩
    simp
    refine xcall_self (by simp) (pnew_c _) ?_
    simp
    refine xloop_ok (D := PL) (fun d => ⟨[(3, .box 1 0), (4, .box 2 0), (26, .sl 10 (enc dlC l) none .no), (27, .v (.int .i64 (l.length : Int))), (28, .v (.int .i64 (d.j : Int)))], [], d.H, []⟩) (PL.Ok l.length) (fun d => l.length - d.j) ⟨_, _, _, _, 0⟩ ⟨Nat.zero_le _, g0, o0, Nat.zero_le _⟩ ?_ ?_
    · simp [Leq, mapC]
      done
    · rintro ⟨H, S, b, L, j⟩ ⟨hj, g, o, hlen⟩
      dsimp only at hj g o hlen
      have hH1 := g.p.i_lt
      have hH2 := g.d.i_lt
      by_cases hlt : j < l.length
      · obtain ⟨d, hd⟩ : ∃ d, d = l[j] := ⟨_, rfl⟩
        obtain ⟨dn, drf, dpf⟩ := hall _ (List.getElem_mem hlt)
        rw [← hd] at dn drf dpf
        have g1 := g.app (c := dlC d) (by simp) (dlC_id d)
        simp [hlt, ← hd]
        refine xseq_some (β := { m : PM // m.Ok H.length (dlC d) (j + 1) }) (fun m => ⟨[(3, .box 1 0), (4, .box 2 0), (26, .sl 10 (enc dlC l) none .no), (27, .v (.int .i64 (l.length : Int))), (28, .v (.int .i64 (j : Int))), (6, .box H.length 0), (7, .v (.bool true))], [], m.1.H, []⟩) ?_ ?_
        · have hfin : ∀ m : { m : PM // m.Ok H.length (dlC d) (j + 1) }, 1 < m.1.H.length ∧ 2 < m.1.H.length ∧ H.length < m.1.H.length ∧ ltLL m.1.H.length m.1.H := fun m => ⟨m.2.g.p.i_lt, m.2.g.d.i_lt, (List.getElem?_eq_some_iff.1 (m.2.g.tmp _ (List.mem_cons_self ..)).1).1, m.2.g.p.lt⟩
          by_cases o0' : d.op = 0
          · have g2 : PlG [(H.length + 1, ptV d.p), (H.length, dlC d)] (H ++ [dlC d, ptV d.p]) S b L := by
              have := g1.app (c := ptV d.p) (by simp) (ptV_id _)
              simpa using this
            obtain ⟨e, h1, w1, h2, w2, S', b', L', k1, k2, g3, o3, l3, t3, n1, n2⟩ := both_put g2 o (by omega) (k := d.name) (by omega) dpf
            obtain ⟨t31, t32, t33⟩ := t3 (H.length + 1, ptV d.p) (by simp)
            obtain ⟨t41, t42, t43⟩ := t3 (H.length, dlC d) (by simp)
            dsimp only at t31 t32 t33 t41 t42 t43
            have mid : PM.Ok H.length (dlC d) (j + 1) ⟨h2, S', b', L'⟩ := ⟨⟨g3.p, g3.d, g3.v2, g3.vb, (fun t ht => g3.tmp t (List.mem_cons_of_mem _ ht)), g3.pl⟩, o3, by show L'.length ≤ j + 1; omega⟩
            have hf := hfin ⟨_, mid⟩
            simp only [ptV, ptC] at k1 k2
            simp [o0', ptV, ptC]
            refine xcall_self (by simp) k1 ?_
            simp [t31, t41]
            refine xcall_self (by simp) k2 ?_
            simp [t31, t41, t32, t42]
            refine ⟨_, mid, ?_⟩
            simp [Leq, leqH_take, hf]
            done
          have hmid : ∀ {h2 : List (List AV)} {S' : Ps} {b' : Nat} {L' : List Sl28}, PlG [(H.length, dlC d)] h2 S' b' L' → PlO S' L' → L'.length ≤ L.length + 1 → PM.Ok H.length (dlC d) (j + 1) ⟨h2, S', b', L'⟩ := fun g3 o3 l3 => ⟨g3, o3, Nat.le_trans l3 (by omega)⟩
          by_cases o1' : d.op = 1
          · obtain ⟨e, h1, w1, h2, w2, S', b', L', k1, k2, g3, o3, l3, t3, n1, n2⟩ := both_ran g1 o (by omega) d.name drf
            obtain ⟨t41, t42, t43⟩ := t3 (H.length, dlC d) (by simp)
            dsimp only at t41 t42 t43
            have mid := hmid g3 o3 l3
            have hf := hfin ⟨_, mid⟩
            simp [o0', o1']
            refine xcall_self (by simp) k1 ?_
            simp [t41]
            refine xcall_self (by simp) k2 ?_
            simp [t41, t42]
            refine ⟨_, mid, ?_⟩
            simp [Leq, leqH_take, hf]
            done
          have e0 : (d.op == 0) = false := by simpa using o0'
          have e1 : (d.op == 1) = false := by simpa using o1'
          by_cases o23 : d.op = 2 ∨ d.op = 3
          · obtain ⟨X, e, x1, x2, h1, w1, h2, w2, S', b', L', k1, k2, g3, o3, l3, t3, n1, n2⟩ := both_fetch g1 o (by omega) d.name d.n
            obtain ⟨t41, t42, t43⟩ := t3 (H.length, dlC d) (by simp)
            dsimp only at t41 t42 t43
            have mid := hmid g3 o3 l3
            have hf := hfin ⟨_, mid⟩
            have e23 : d.op = 2 ∨ (¬ d.op = 2 ∧ d.op = 3) := by omega
            rcases e23 with o2' | ⟨o2', o3'⟩
            · simp [o0', o1', e0, e1, o2']
              refine xcall_self (by simp) k1 ?_
              simp [t41, t43]
              refine xcall_self (by simp) k2 ?_
              simp [t41, t42]
              refine xcall_self (by simp) (lrows28_c X x1 x2 _) ?_
              simp
              refine ⟨_, mid, ?_⟩
              simp [Leq, leqH_take, hf]
              done
            · simp [o0', o1', e0, e1, o2', o3']
              refine xcall_self (by simp) k1 ?_
              simp [t41, t43]
              refine xcall_self (by simp) k2 ?_
              simp [t41, t42]
              refine xcall_self (by simp) (lrows28_c X x1 x2 _) ?_
              simp
              refine ⟨_, mid, ?_⟩
              simp [Leq, leqH_take, hf]
              done
          rw [not_or] at o23
          have e2 : (d.op == 2) = false := by simpa using o23.1
          have e3 : (d.op == 3) = false := by simpa using o23.2
          by_cases o4' : d.op = 4
          · obtain ⟨e, h1, w1, h2, w2, S', b', L', k1, k2, g3, o3, l3, t3, n1, n2⟩ := both_del g1 o (by omega) d.name
            obtain ⟨t41, t42, t43⟩ := t3 (H.length, dlC d) (by simp)
            dsimp only at t41 t42 t43
            have mid := hmid g3 o3 l3
            have hf := hfin ⟨_, mid⟩
            simp [o0', o1', e0, e1, o23, e2, e3, o4']
            refine xcall_self (by simp) k1 ?_
            simp [t41]
            refine xcall_self (by simp) k2 ?_
            simp [t41, t42]
            refine ⟨_, mid, ?_⟩
            simp [Leq, leqH_take, hf]
            done
          have e4 : (d.op == 4) = false := by simpa using o4'
          obtain ⟨h1, w1, k1, g2, t3, n1⟩ := g1.byP (pclear_d g1.p)
          have mid := hmid g2.wipe (PlO.clear (S := S)) (Nat.zero_le _)
          have hf := hfin ⟨_, mid⟩
          have hd2 := g2.d.i_lt
          have hd2t := g2.d.top
          simp [o0', o1', e0, e1, o23, e2, e3, o4', e4]
          refine xcall_self (by simp) k1 ?_
          simp [hd2t]
          refine ⟨_, mid, ?_⟩
          simp at hf
          simp [Leq, leqH_take, hf]
          done
        · rintro ⟨⟨H2, S2, b2, L2⟩, m⟩
          obtain ⟨mg, mo, ml⟩ := m
          dsimp only at mg mo ml
          have m2 := mg.app (c := dlC d) (by simp) (dlC_id d)
          obtain ⟨mt, _⟩ := mg.tmp _ (List.mem_cons_self ..)
          dsimp only at mt
          have hl1 : L2.length ≤ 1000 := by omega
          obtain ⟨p, e, pf, k1, k2⟩ := both_get mg mo hl1 d.name
          have g3 := mg.app (c := ptV p) (by simp) (ptV_id _)
          have g4 := g3.app (c := ptV p) (by simp) (ptV_id _)
          have hnl : S2.names.length = L2.length := by rw [Ps.names_len, mo.len]
          have kn := pnames_c g4.p mo.ok (by have := mo.len; omega) g4.pl
          have hm : ∀ xs, (H2 ++ xs)[H.length]? = some (dlC d) := fun xs => by rw [List.getElem?_append_left (List.getElem?_eq_some_iff.1 mt).1]; exact mt
          have hw : IntKind.i64.wrap ((j : Int) + 1) = (j : Int) + 1 := wrap64 (by omega) (by omega)
          have hm2 : ∀ xs, (H2 ++ xs)[2]? = some [lisV 7 b2 L2] := fun xs => by rw [List.getElem?_append_left mg.d.i_lt]; exact mg.d.top
          have hf1 := mg.p.i_lt
          have hf2 := mg.d.i_lt
          have hf3 := mg.p.lt
          simp at kn
          have fin : PL.Ok l.length ⟨H2, S2, b2, L2, j + 1⟩ := ⟨hlt, mg.none, mo, ml⟩
          have mu : l.length - (j + 1) < l.length - j := by omega
          simp [mt]
          refine xcall_self (by simp) k1 ?_
          simp [mt, hm]
          refine xcall_self (by simp) k2 ?_
          simp [mt, hm]
          refine xcall_self (by simp) (psame_c p pf _) ?_
          by_cases hl2 : L2 = []
          · subst hl2
            simp [lisV] at hm2
            simp at hnl
            simp [hm2]
            refine xcall_self (by simp) kn ?_
            simp [hnl, hw]
            refine ⟨_, fin, mu, ?_⟩
            simp [Leq, leqH_take, hf1, hf2, hf3]
            done
          · rw [lisV_some _ _ hl2] at hm2
            simp [hm2]
            refine xcall_self (by simp) kn ?_
            simp [hnl, hw]
            refine ⟨_, fin, mu, ?_⟩
            simp [Leq, leqH_take, hf1, hf2, hf3]
            done
      · have : j = l.length := by omega
        subst this
        have kn := pnames_c g.p o.ok (by have := o.len; omega) g.pl
        rw [o.names] at kn
        have hlt2 := g.p.lt
        simp
        refine xcall_self (by simp) kn ?_
        simp
        refine xloop_ok (D := Nat) (fun q => ⟨[(4, .box 2 0), (159, .sl 1 (enc strC (L.map Sn.name)) none .no), (160, .v (.int .i64 (L.length : Int))), (161, .v (.int .i64 (q : Int)))], [], H, []⟩) (fun q => q ≤ L.length) (fun q => L.length - q) 0 (by omega) ?_ ?_
        · simp [Leq, leqH_take, hH1, hH2, hlt2]
          done
        · intro q hq
          by_cases hql : q < L.length
          · obtain ⟨e1, e2, e3, _⟩ := g.d.el hql
            have hw : IntKind.i64.wrap ((q : Int) + 1) = (q : Int) + 1 := wrap64 (by omega) (by omega)
            simp [hql, e1, e2, e3, hw, strC]
            refine ⟨q + 1, by omega, by omega, ?_⟩
            simp [Leq, leqH_take, hH1, hH2, hlt2]
            done
          · have : q = L.length := by omega
            subst this
            simp
            refine xcall_self (by simp) (pawake_c _) ?_
            simp
end Go.Proofs.Ytmdapcmdlblnnaa.Ax
namespace Go.Proofs.Ytmdapcmdlblnnaa.portalLives
open Go.ChangeShapes Go.WideShapes Go.ChangeAt Go.RowKit
open Go.ChangeMaps (open_string shut_string)
set_option linter.unusedVariables false

theorem own : ownKnob Try.prog.godebug = none := by kernel_rfl
theorem laidOut : laidOutB Try.prog = true := by kernel_rfl

set_option maxRecDepth 100000 in
theorem lifted (os : Os) (started : os.Started) (H : Type) (enc : TypeId × Value → H) :
    ReturnsInHanded {} Try.checked os 3 .any (Rows.portalLivesSpec.pre6 enc Try.prog Try.f3 Rows.portalLivesRow.domain false) (Rows.portalLivesSpec.post enc Try.prog Try.f3 false true false false) := by
  refine returnsInHanded_of_change_sized (C := Try.checked) own started (by kernel_rfl) Try.func3
    (ChangeSpec.witness6 (enc := enc) (C := Try.checked) false ⟨#[], #[.slice none 0 0], []⟩ 8 (by kernel_rfl) (by kernel_rfl) (by kernel_rfl) (by kernel_rfl)) ?_
  intro W base args ds gs before hval0 hW hcnd hreach _
  have hval : ∀ (j : Nat) t v, Try.f3.params[j]? = some t → args[j]? = some v → Value.okWide Try.prog W .any base t v := hval0
  have hW' := hW
  obtain ⟨p, q, hA0, hV, rfl, hfz, hnd⟩ := hW
  have hA : DataW.TrodAll enc Try.prog W 0 (fun _ => true) true Try.f3.params.toList args.toList ds p := hA0
  rw [Try.params3] at hA hval
  obtain ⟨v0, vs0, d0, ds0, p0, q0, hargs, rfl, rfl, h0, r0⟩ := trodAll_cons hA
  obtain ⟨rfl, rfl, rfl⟩ := trodAll_nil r0
  obtain rfl : args = #[v0] := by cases args; simp_all
  obtain ⟨rfl, rfl⟩ := trodVars_none hV
  have k0 := h0
  have lt0 : ∀ x ∈ p0, x.block < W.heap.size := by obtain ⟨m, hm⟩ := k0; exact DataW.trod_lt m _ _ _ hm
  obtain ⟨a0, ok0, s0⟩ := Ax.argR_slice Try.underlying22 Ax.sh_dlRL (hval 0 22 v0 rfl rfl) h0 (Ax.reached_of hreach (j := 0) rfl rfl)
  clear hA0 hval0 hreach
  refine (Ax.law_walk (w := W) (Ax.dom_any W) (Ax.plives_c a0 ok0) (by simp) (.cons s0 .nil)).mono fun e W' ⟨he, bel⟩ => ?_
  subst he
  exact ⟨_, rfl, _, _, _, [], _, [], hW', trodAll_mk1 (shut_bool Try.underlying4 _), (trodAll_cons_mk (Below.trod laidOut (by kernel_rfl) (of_decide_eq_true (by kernel_rfl)) k0 bel lt0) trodAll_mk0), rfl, bel.frame _, fun h => by cases h⟩

theorem over : Rows.portalLivesRow.holds Try.pinned (OpenSpec.ofChange Rows.portalLivesSpec) :=
  OpenClaim.holds_of_wide 3 Try.f3 rfl rfl rfl rfl rfl rfl rfl ⟨rfl, rfl, rfl, rfl, rfl⟩ rfl rfl rfl rfl rfl (by kernel_rfl) Try.func3 (by kernel_rfl)
    (of_decide_eq_true (by kernel_rfl)) (by unfold Func.isWrapper; first | (rw [if_pos (by decide +kernel)]; kernel_rfl) | (rw [if_neg (by decide +kernel)]; exact ⟨rfl, rfl⟩))
    (fun os started H enc _ => lifted os started H enc)

theorem proved : Rows.PortalLivesSaid := over
#print axioms proved
end Go.Proofs.Ytmdapcmdlblnnaa.portalLives
