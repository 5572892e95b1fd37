/- Rows come once each, in order. -/
import Derived.Test.YtmdapcmdlblnnaaQAxRo
import Derived.Test.YtmdapcmdlblnnaaQAxXr
import Derived.Test.YtmdapcmdlblnnaaRows
import Derived.Test.YtmdapcmdlblnnaaQAxPk
import Derived.Test.YtmdapcmdlblnnaaQAxCe
import Derived.Test.YtmdapcmdlblnnaaQElems
import Derived.SizedLaws
import Derived.WalkKit
import Derived.ProofKit
import Derived.OpenShut
import Derived.ShutString
import Derived.ChangeOld
import Derived.Below
/- What reads as data of the types of package api is laid out as their structures are. Written by gen/ax_types.py. -/
namespace Go.Proofs.Ytmdapcmdlblnnaa.Ax
open Go.RowKit Go By
set_option linter.unusedSimpArgs false
set_option linter.unusedVariables false

theorem sh_bool : Shape Try.prog 4 (fun b : Bool => [.v (.bool b)]) (fun _ => True) := shape_bool Try.underlying4
theorem sh_bytes : Shape Try.prog 58 (fun l : List UInt8 => [.sl 1 (bytesE l) none .no]) (fun l => l.length ≤ maxLen) := shape_bytes Try.underlying58 (by kernel_rfl) Try.underlying5
end Go.Proofs.Ytmdapcmdlblnnaa.Ax
/- Arguments within the form's reach: slices by their bytes; cells. -/
namespace Go.Proofs.Ytmdapcmdlblnnaa.Ax
open Go.RowKit Go.Deep Go.ChangeShapes Go.WideShapes Go.ChangeAt Go.Joins Go By
set_option linter.unusedSimpArgs false
set_option linter.unusedVariables false

section
variable {P : Program} {t : TypeId}
/-- As shapeR_slice; the elements' bytes, B each, are within reach. -/
theorem shapeR_sliceB {e : TypeId} {k : Nat} {α : Type} {f : α → List AV} {ok : α → Prop} (ht : P.underlying t = some (.slice e)) (hk : P.cellsOf e = k) (hp : 0 < k) {B : Nat} (hby : P.bytesOf e = B) (he : ShapeR P e f ok) (hf : ∀ a, (f a).length = k) :
    ShapeR P t (fun l : List α => [.sl k (enc f l) none .no]) (fun l => l.length * B ≤ reachBytes ∧ ∀ x ∈ l, ok x) := fun en w base held n cs x hx hrx => by
  rcases open_slice ht hx with ⟨rfl, _⟩ | ⟨a, len, cap, m, n, D, Pl, rfl, _, hl, hcm, hm, rfl, hi⟩
  · exact ⟨[], ⟨by simp, fun x h => by cases h⟩, .one rfl (.sl k [] none .no none 0 0 (fun _ _ => undef) rfl ⟨fun _ => ⟨rfl, rfl⟩, fun h => (by cases h), fun h => (by cases h)⟩ (fun e h => by cases h) (Nat.le_refl _) (by simp [maxLen]) (fun h => by cases h) (fun h => by simp at h) (fun i e h => by simp at h) (fun i j h => by simp at h))⟩
  · simp at hm
    by_cases h0 : len = 0
    · subst h0
      exact ⟨[], ⟨by simp, fun x h => by cases h⟩, .one rfl (.sl k [] none .no (some a) 0 cap (fun _ _ => undef) rfl ⟨fun h => (by cases h), fun h => (by cases h), fun h => (by cases h)⟩ (fun e h => by cases h) hl hcm (fun h => by cases h) (fun h => by simp at h) (fun i e h => by simp at h) (fun i j h => by simp at h))⟩
    have hlen : len * B ≤ reachBytes := by
      have := hrx ((len + (m - len)) * P.bytesOf e) (by simp [DataW.weights, ht])
      rw [hby] at this
      exact Nat.le_trans (Nat.mul_le_mul_right _ (by omega)) this
    have hre : ∀ i, i < len → Reached P e (D i) := fun i hlt k hk => hrx k (by
      simp only [DataW.weights, ht, List.mem_cons, List.mem_append]
      exact .inr (.inl (weights_all (List.mem_map.2 ⟨i, List.mem_range.2 hlt, rfl⟩) k hk)))
    have at_ : ∀ i, i < len → ∃ p : α × List Value, ok p.1 ∧ SeesCs (G0 w) (f p.1) p.2 ∧ p.2.length = k ∧ ∀ j u, p.2[j]? = some u → w.cell? ((a.add (i * k)).add j) = some u := fun i hlt => by
      obtain ⟨cs', hc, ht'⟩ := hi i (by omega)
      rw [hk] at hc
      obtain ⟨_, hlen, hat⟩ := World.cells?_some hc
      obtain ⟨b, h1, h2⟩ := he en w base held n cs' _ ht' (hre i hlt)
      refine ⟨(b, cs'), h1, h2, hlen, fun j u hu => ?_⟩
      have hj : j < k := by rw [← hlen]; exact (List.getElem?_eq_some_iff.1 hu).1
      rw [hat j hj, hu]
    have hel : ∀ i, ∃ p : α × List Value, i < len → ok p.1 ∧ SeesCs (G0 w) (f p.1) p.2 ∧ p.2.length = k ∧ ∀ j u, p.2[j]? = some u → w.cell? ((a.add (i * k)).add j) = some u := fun i => by
      by_cases hlt : i < len
      · obtain ⟨p, hp⟩ := at_ i hlt; exact ⟨p, fun _ => hp⟩
      · obtain ⟨p, _⟩ := at_ 0 (by omega); exact ⟨p, fun hh => absurd hh hlt⟩
    obtain ⟨g, hg⟩ := Classical.axiomOfChoice hel
    have hget : ∀ i, i < len → ((List.range len).map fun i => (g i).1)[i]? = some (g i).1 := fun i hi' => by
      rw [List.getElem?_map, List.getElem?_range hi']; rfl
    refine ⟨(List.range len).map fun i => (g i).1, ⟨by simpa using hlen, fun x hx => ?_⟩, .one rfl ?_⟩
    · obtain ⟨i, hi', rfl⟩ := List.mem_map.1 hx
      exact (hg i (List.mem_range.1 hi')).1
    · refine .sl k _ none .no (some a) len cap (fun i j => (g i).2.getD j undef) (by simp [Ax.enc]) ⟨fun h => (by cases h), fun h => (by cases h), fun h => (by cases h)⟩ (fun e he' => ?_) hl hcm (fun h => by cases h) (fun hpos => ?_) (fun i e he' j c hj => ?_) (fun i j hi' hj => ?_)
      · obtain ⟨x, _, rfl⟩ := List.mem_map.1 he'; exact hf x
      · obtain ⟨b, off, spot⟩ := a
        obtain ⟨_, _, hl0, hc0⟩ := hg 0 (by omega)
        have h1 := hc0 0 _ (List.getElem?_eq_getElem (by omega))
        have hs : spot = none := by simpa [Addr.add] using World.cell?_spot h1
        subst hs
        refine ⟨b, off, rfl, fun i j hi' hj => ?_⟩
        have hi2 : i < len := by simpa [Ax.enc] using hi'
        obtain ⟨_, _, hl1, hc1⟩ := hg i hi2
        have h2 := hc1 j _ (List.getElem?_eq_getElem (by omega))
        rw [By.add_plain, By.add_plain] at h2
        rw [List.getD_eq_getElem?_getD, List.getElem?_eq_getElem (by omega)]
        exact G0_cell h2
      · obtain ⟨x, hx1, rfl⟩ := enc_at f _ i he'
        have hi2 : i < len := by have := (List.getElem?_eq_some_iff.1 hx1).1; simpa using this
        rw [hget i hi2] at hx1
        injection hx1 with hx1
        subst hx1
        exact (hg i hi2).2.1.2.2 j c hj
      · have hi2 : i < len := by simpa [Ax.enc] using hi'
        obtain ⟨_, hs, hl1, _⟩ := hg i hi2
        rw [List.getD_eq_getElem?_getD, List.getElem?_eq_getElem (by omega)]
        exact hs.2.1 _ (List.getElem_mem _)
end
theorem sh_cellR : ShapeR Try.prog 79 cellC (fun x => True ∧ x.2.length ≤ reachBytes) :=
  ShapeR.map (shapeR_struct Try.underlying79 (by kernel_rfl) (shapeR_cons (k := 1) rfl (by kernel_rfl) sh_bool.reach (by kernel_rfl) (shapeR_one (k := 1) rfl (by kernel_rfl) (shapeR_bytes Try.underlying58 (by kernel_rfl) (of_decide_eq_true (by kernel_rfl)) Try.underlying5)))) (fun p => (p.1, p.2)) (fun _ => rfl) (fun _ h => h)
theorem sh_cellRB : ShapeR Try.prog 34 (fun l : List Cl => [.sl 2 (enc cellC l) none .no]) (fun l => l.length * 32 ≤ reachBytes ∧ ∀ x ∈ l, True ∧ x.2.length ≤ reachBytes) := shapeR_sliceB Try.underlying34 (by kernel_rfl) (by decide) (by kernel_rfl) sh_cellR (fun _ => rfl)
end Go.Proofs.Ytmdapcmdlblnnaa.Ax
/- Layer 28's statements: rows are fetched once each. -/
namespace Go.Proofs.Ytmdapcmdlblnnaa.Ax
open Go.RowKit Go By
set_option linter.unusedSimpArgs false
set_option linter.unusedVariables false
set_option maxRecDepth 10000

theorem rowsEq_c (a : List (List Cl)) (ha : a.length ≤ 1000000) (hc : ∀ r ∈ a, r.length ≤ 140737488355328) (h : List (List AV)) : Contract Try.prog 29 [.sl 1 (enc rowKC a) none .no, .sl 1 (enc rowKC a) none .no, .fn (.func 30) [] []] h (.v (.bool true)) h [] := by
  refine contract_of k29 mixed (by simp [c29]) fun hh hargs => ?_
  simp [c29]
  refine xloop_ok (D := Nat) (fun j => ⟨[(0, .sl 1 (enc rowKC a) none .no), (1, .sl 1 (enc rowKC a) none .no), (2, .fn (.func 30) [] []), (15, .sl 1 (enc rowKC a) none .no), (16, .v (.int .i64 (a.length : Int))), (17, .v (.int .i64 (j : Int)))], [], h, []⟩) (fun j => j ≤ a.length) (fun j => a.length - j) 0 (by simp) ?_ ?_
  · simp [Leq, hh]
    done
  · intro j hj
    by_cases hlt : j < a.length
    · have hw : IntKind.i64.wrap ((j : Int) + 1) = (j : Int) + 1 := wrap64 (by omega) (by omega)
      simp [hlt, rowKC_mk]
      refine xcall_self (by simp) (rcells_c a[j] a[j] (hc _ (List.getElem_mem hlt)) _) ?_
      simp [hw]
      refine ⟨j + 1, by omega, by omega, ?_⟩
      simp [Leq, hh]
      done
    · simp [hlt, hh]
      done
theorem lrows28_c (a : List (List Cl)) (ha : a.length ≤ 1000000) (hc : ∀ r ∈ a, r.length ≤ 140737488355328) (h : List (List AV)) : Contract Try.prog 15 [.sl 1 (enc rowKC a) none .no, .sl 1 (enc rowKC a) none .no] h (.v (.bool true)) h [] := by
  refine contract_of k15 mixed (by simp [c15]) fun hh hargs => ?_
  simp [c15]
  refine xcall_self (by simp) (rowsEq_c a ha hc _) ?_
  simp [hh]
theorem RowsFit.small {L : List (List Cl)} (h : RowsFit L) : L.length ≤ 1000000 ∧ ∀ r ∈ L, r.length ≤ 140737488355328 := ⟨h.1, fun r hr => by have := (h.2 r hr).1; omega⟩
theorem sh_rowR : ShapeR Try.prog 34 rowKC (fun l => l.length * 32 ≤ reachBytes ∧ ∀ x ∈ l, True ∧ x.2.length ≤ reachBytes) := sh_cellRB
theorem sh_rowRL : ShapeR Try.prog 35 (fun l : List (List Cl) => [.sl 1 (enc rowKC l) none .no]) (fun l => l.length ≤ reachBytes ∧ ∀ r ∈ l, r.length * 32 ≤ reachBytes ∧ ∀ x ∈ r, True ∧ x.2.length ≤ reachBytes) := shapeR_slice Try.underlying35 (by kernel_rfl) (by decide) (of_decide_eq_true (by kernel_rfl)) sh_rowR (fun _ => rfl)
theorem rowsFit_of {l : List (List Cl)} (h1 : l.length ≤ 1000000) (h2 : ∀ r ∈ l, r.length * 32 ≤ reachBytes ∧ ∀ x ∈ r, True ∧ x.2.length ≤ reachBytes) : RowsFit l := ⟨h1, fun r hr => by
  obtain ⟨h3, h4⟩ := h2 r hr
  have : reachBytes = 140737488351232 := rfl
  refine ⟨by omega, fun c hc => by have := (h4 c hc).2; omega⟩⟩

structure PF where
  H : List (List AV)
  S : Ps
  x : PV
  g : Nat
  j : Nat
/-- Where a loop stands that fetches: g rows are fetched. -/
structure PF.Ok (L : List (List Cl)) (m : Nat) (d : PF) : Prop where
  le : d.j ≤ m
  at_ : PsAt d.H 1 d.S
  ok : PsOk d.S
  get : d.S.get [112] = some d.x
  rows : d.x.p.rows = L.drop d.g
  ran : d.x.p.ran = true
  over : d.x.p.over = true → L.drop d.g = []
  gl : d.g ≤ L.length
/-- What a fetch does then. -/
theorem PF.Ok.step {L : List (List Cl)} {m : Nat} {d : PF} (h : d.Ok L m) (hL : L.length ≤ 1000000) (most : Int) : ∃ (H' : List (List AV)) (S' : Ps) (x' : PV) (n : Nat) (wr : List Nat),
    Contract Try.prog 13 [.box 1 0, .v (.string (strB [112])), .v (.int .i64 most)] d.H (.tup [.sl 1 (enc rowKC ((L.drop d.g).take n)) none .no, .v (.bool (decide (d.g + n < L.length)))]) H' wr ∧ n = fetchN most (L.length - d.g) ∧ d.g + n ≤ L.length ∧ PF.Ok L m ⟨H', S', x', d.g + n, d.j⟩ ∧ d.H.length ≤ H'.length := by
  have hle := fetchN_le most (L.length - d.g)
  have hlen : d.x.p.rows.length = L.length - d.g := by rw [h.rows, List.length_drop]
  have hgl := h.gl
  cases hov : d.x.p.over with
  | true =>
    have hnil := h.over hov
    have h0 : L.length - d.g = 0 := by have := congrArg List.length hnil; simpa using this
    have hn0 : fetchN most (L.length - d.g) = 0 := by omega
    have := pfetch_no h.at_ h.get (.inr hov) most
    refine ⟨d.H, d.S, d.x, 0, [], ?_, hn0.symm, by omega, ⟨h.le, h.at_, h.ok, h.get, h.rows, h.ran, h.over, h.gl⟩, Nat.le_refl _⟩
    have e : decide (d.g + 0 < L.length) = false := decide_eq_false (by omega)
    rw [e, hnil]
    exact this
  | false =>
    have hd := pfetch_d h.at_ h.ok h.get h.ran hov most
    obtain ⟨H', wr, k, at_, _, hl, _⟩ := hd
    obtain ⟨n, hn⟩ : ∃ n, n = fetchN most (L.length - d.g) := ⟨_, rfl⟩
    rw [hlen, ← hn, h.rows, List.drop_drop] at k
    rw [← hn] at hle
    have e : (!decide (L.drop (d.g + n) = [])) = decide (d.g + n < L.length) := by
      rw [Bool.eq_iff_iff]; simp
    rw [e] at k
    have hfit := h.ok.gfit h.get
    refine ⟨H', d.S.put [112] (fetchX d.x most), fetchX d.x most, n, wr, k, hn, by omega, ⟨h.le, at_, h.ok.put _ (fetch_fit hfit _), ?_, ?_, h.ran, ?_, by show d.g + n ≤ L.length; omega⟩, hl⟩
    · have e := Ps.get_put h.ok [112] (fetchX d.x most) [112]
      rw [if_pos rfl] at e
      exact e
    · show d.x.p.rows.drop (fetchN most d.x.p.rows.length) = _
      rw [hlen, ← hn, h.rows, List.drop_drop]
    · intro ho
      have : decide (d.x.p.rows.drop (fetchN most d.x.p.rows.length) = []) = true := ho
      rw [hlen, ← hn, h.rows, List.drop_drop] at this
      exact of_decide_eq_true this
set_option maxHeartbeats 1000000 in
theorem pfetches_c (L : List (List Cl)) (ps : List UInt8) (ok : L.length ≤ reachBytes ∧ ∀ r ∈ L, r.length * 32 ≤ reachBytes ∧ ∀ x ∈ r, True ∧ x.2.length ≤ reachBytes) : Contract Try.prog 4 [.sl 1 (enc rowKC L) none .no, .sl 1 (bytesE ps) none .no] [] (.v (.bool true)) [] [] := by
  refine contract_of k4 mixed (by simp [c4]) fun hh hargs => ?_
  simp [c4]
  by_cases hL : (40 : Int) < L.length
  · simp [hL]
    refine xcall_self (by simp) (pawake_c _) ?_
    simp
    done
  by_cases hP : (60 : Int) < ps.length
  · simp [hL, hP]
    refine xcall_self (by simp) (pawake_c _) ?_
    simp
    done
  have hfit : RowsFit L := rowsFit_of (by omega) ok.2
  have r0 := newS_at (h := []) trivial
  have o0 := newS_ok 0
  obtain ⟨x1, hx1, h1, w1, k1, r1, _, hl1, _⟩ := pput_d (k := [112]) r0 o0 (by simp) (.inr rfl) (p := zPt) zPt_fit
  have o1 : PsOk ((newS 0).put [112] x1) := o0.put _ (by rw [hx1]; exact zPt_fit)
  have g1 : ((newS 0).put [112] x1).get [112] = some x1 := by rw [Ps.get_put o0]; simp
  obtain ⟨h2, w2, k2, r2, _, hl2, _⟩ := pran_d r1 o1 g1 (by rw [hx1]; rfl) hfit
  have o2 := o1.put [112] (x := ⟨x1.v, ranP x1.p L, h1.length, 0⟩) (ran_fit (by rw [hx1]; exact zPt_fit) hfit)
  have g2 := Ps.get_put o1 [112] ⟨x1.v, ranP x1.p L, h1.length, 0⟩ [112]
  rw [if_pos rfl] at g2
  have hov2 : (ranP x1.p L).over = false := by rw [hx1]; rfl
  have k3 := pran_t r2 g2 rfl []
  simp at k1
  simp at k2
  simp [hL, hP]
  refine xcall_self (by simp) (pnew_c _) ?_
  simp
  refine xcall_of k1 (by simp [ptV, ptC, zPt]) (by simp) ?_
  simp
  refine xcall_self (by simp) k2 ?_
  simp
  refine xcall_of k3 (by simp) (by simp) ?_
  simp
  refine xloop_ok (D := PF) (fun d => ⟨[(0, .sl 1 (enc rowKC L) none .no), (5, .box 1 0), (41, .sl 1 (bytesE ps) none .no), (42, .v (.int .i64 (ps.length : Int))), (43, .v (.int .i64 (d.j : Int)))], [(6, .sl 1 (enc rowKC (L.take d.g)) none (.own (.slot 6)))], d.H, []⟩) (PF.Ok L ps.length) (fun d => ps.length - d.j) ⟨h2, _, _, 0, 0⟩ ⟨Nat.zero_le _, r2, o2, g2, rfl, rfl, (fun h => by rw [hov2] at h; cases h), Nat.zero_le _⟩ ?_ ?_
  · have h1l : 1 < h2.length := r2.i_lt
    have h2l := r2.lt
    simp [Leq, leqH_take, h1l, h2l]
  · rintro ⟨H, S, x, g, j⟩ hd
    have hlen := hd.at_.i_lt
    have hlt := hd.at_.lt
    have hj := hd.le
    dsimp only at hlen hlt hj
    by_cases hjl : j < ps.length
    · have hw : IntKind.i64.wrap ((j : Int) + 1) = (j : Int) + 1 := wrap64 (by omega) (by omega)
      obtain ⟨c, hc⟩ : ∃ c, c = ps[j] := ⟨_, rfl⟩
      obtain ⟨q, hq⟩ : ∃ q : Nat, q = c.toNat % 5 := ⟨_, rfl⟩
      have hq5 : q < 5 := by omega
      have hA : ((c.toNat : Int)).tmod 5 = (q : Int) := by rw [hq]; exact Int.ofNat_tmod _ _
      have hB : IntKind.i64.wrap (q : Int) = (q : Int) := wrap64 (by omega) (by omega)
      have hC : IntKind.i64.wrap (1 + (q : Int)) = 1 + (q : Int) := wrap64 (by omega) (by omega)
      obtain ⟨H', S', x', n, wr, k, hn, hgn, hd', hl'⟩ := hd.step (by omega) (1 + (q : Int))
      dsimp only at k hn hgn hl'
      have hgl := hd.gl
      dsimp only at hgl
      have hnq : n ≤ 1 + q := by rw [hn]; unfold fetchN; rw [if_neg (by omega)]; omega
      have hm1 : min g L.length = g := by omega
      have hm2 : min n (L.length - g) = n := by omega
      have hnq' : ¬ (1 + (q : Int)) < (n : Int) := by omega
      have hdec : decide (g + n < L.length) = decide ((g : Int) + (n : Int) < (L.length : Int)) := decide_eq_decide.2 (by omega)
      rw [hdec] at k
      have htk : L.take g ++ (L.drop g).take n = L.take (g + n) := (List.take_add ..).symm
      have hlt' := hd'.at_.lt
      have hil' := hd'.at_.i_lt
      dsimp only at hlt' hil'
      simp [hjl, ← hc, hA, hB, hC]
      refine xcall_self (by simp) k ?_
      simp [hm1, hm2, hA, hB, hC, hnq', hw]
      refine ⟨by omega, by omega, ⟨H', S', x', g + n, j + 1⟩, ⟨hjl, hd'.at_, hd'.ok, hd'.get, hd'.rows, hd'.ran, hd'.over, hd'.gl⟩, by show ps.length - (j + 1) < ps.length - j; omega, ?_⟩
      simp [Leq, leqH_take, hil', hlt', ← htk, enc_append]
    · have : j = ps.length := by omega
      subst this
      obtain ⟨H', S', x', n, wr, k, hn, hgn, hd', hl'⟩ := hd.step (by omega) 0
      dsimp only at k hn hgn hl'
      have hgl := hd.gl
      dsimp only at hgl
      have hall : g + n = L.length := by rw [hn]; unfold fetchN; rw [if_pos (by omega)]; omega
      have hm1 : min g L.length = g := by omega
      have hm2 : min n (L.length - g) = n := by omega
      have hno : decide (g + n < L.length) = false := decide_eq_false (by omega)
      rw [hno] at k
      have htk : L.take g ++ (L.drop g).take n = L := by rw [← List.take_add, hall, List.take_length]
      obtain ⟨f1, f2⟩ := hfit.small
      simp
      refine xcall_self (by simp) k ?_
      simp [hm1, hm2]
      have hen : enc rowKC (L.take g) ++ enc rowKC ((L.drop g).take n) = enc rowKC L := by rw [← enc_append, htk]
      simp only [hen]
      refine ⟨by omega, by omega, ?_⟩
      refine xcall_of (lrows28_c L f1 f2 _) (by simp) (by simp) ?_
      simp
      refine xcall_self (by simp) (pawake_c _) ?_
      simp
end Go.Proofs.Ytmdapcmdlblnnaa.Ax
namespace Go.Proofs.Ytmdapcmdlblnnaa.portalFetches
open Go.ChangeShapes Go.WideShapes Go.ChangeAt Go.RowKit
open Go.ChangeMaps (open_string shut_string)
set_option linter.unusedVariables false

theorem own : ownKnob Try.prog.godebug = none := by kernel_rfl
theorem laidOut : laidOutB Try.prog = true := by kernel_rfl

set_option maxRecDepth 100000 in
theorem lifted (os : Os) (started : os.Started) (H : Type) (enc : TypeId × Value → H) :
    ReturnsInHanded {} Try.checked os 4 .any (Rows.portalFetchesSpec.pre6 enc Try.prog Try.f4 Rows.portalFetchesRow.domain false) (Rows.portalFetchesSpec.post enc Try.prog Try.f4 false true false false) := by
  refine returnsInHanded_of_change_sized (C := Try.checked) own started (by kernel_rfl) Try.func4
    (ChangeSpec.witness6 (enc := enc) (C := Try.checked) false ⟨#[], #[.slice none 0 0, .slice none 0 0], []⟩ 8 (by kernel_rfl) (by kernel_rfl) (by kernel_rfl) (by kernel_rfl)) ?_
  intro W base args ds gs before hval0 hW hcnd hreach _
  have hval : ∀ (j : Nat) t v, Try.f4.params[j]? = some t → args[j]? = some v → Value.okWide Try.prog W .any base t v := hval0
  have hW' := hW
  obtain ⟨p, q, hA0, hV, rfl, hfz, hnd⟩ := hW
  have hA : DataW.TrodAll enc Try.prog W 0 (fun _ => true) true Try.f4.params.toList args.toList ds p := hA0
  rw [Try.params4] at hA hval
  obtain ⟨v0, vs0, d0, ds0, p0, q0, hargs, rfl, rfl, h0, r0⟩ := trodAll_cons hA
  obtain ⟨v1, vs1, d1, ds1, p1, q1, rfl, rfl, rfl, h1, r1⟩ := trodAll_cons r0
  obtain ⟨rfl, rfl, rfl⟩ := trodAll_nil r1
  obtain rfl : args = #[v0, v1] := by cases args; simp_all
  obtain ⟨rfl, rfl⟩ := trodVars_none hV
  have k0 := h0
  have lt0 : ∀ x ∈ p0, x.block < W.heap.size := by obtain ⟨m, hm⟩ := k0; exact DataW.trod_lt m _ _ _ hm
  obtain ⟨a0, ok0, s0⟩ := Ax.argR_slice Try.underlying35 Ax.sh_rowRL (hval 0 35 v0 rfl rfl) h0 (Ax.reached_of hreach (j := 0) rfl rfl)
  have k1 := h1
  have lt1 : ∀ x ∈ p1, x.block < W.heap.size := by obtain ⟨m, hm⟩ := k1; exact DataW.trod_lt m _ _ _ hm
  obtain ⟨a1, ok1, s1⟩ := Ax.arg_slice Try.underlying58 Ax.sh_bytes (hval 1 58 v1 rfl rfl) h1
  clear hA0 hval0 hreach
  refine (Ax.law_walk (w := W) (Ax.dom_any W) (Ax.pfetches_c a0 a1 ok0) (by simp) (.cons s0 (.cons s1 .nil))).mono fun e W' ⟨he, bel⟩ => ?_
  subst he
  exact ⟨_, rfl, _, _, _, [], _, [], hW', trodAll_mk1 (shut_bool Try.underlying4 _), (trodAll_cons_mk (Below.trod laidOut (by kernel_rfl) (of_decide_eq_true (by kernel_rfl)) k0 bel lt0) (trodAll_cons_mk (Below.trod laidOut (by kernel_rfl) (of_decide_eq_true (by kernel_rfl)) k1 bel lt1) trodAll_mk0)), rfl, bel.frame _, fun h => by cases h⟩

theorem over : Rows.portalFetchesRow.holds Try.pinned (OpenSpec.ofChange Rows.portalFetchesSpec) :=
  OpenClaim.holds_of_wide 4 Try.f4 rfl rfl rfl rfl rfl rfl rfl ⟨rfl, rfl, rfl, rfl, rfl⟩ rfl rfl rfl rfl rfl (by kernel_rfl) Try.func4 (by kernel_rfl)
    (of_decide_eq_true (by kernel_rfl)) (by unfold Func.isWrapper; first | (rw [if_pos (by decide +kernel)]; kernel_rfl) | (rw [if_neg (by decide +kernel)]; exact ⟨rfl, rfl⟩))
    (fun os started H enc _ => lifted os started H enc)

theorem proved : Rows.PortalFetchesSaid := over
#print axioms proved
end Go.Proofs.Ytmdapcmdlblnnaa.portalFetches
