/- Layer 18's statement: a cache is seen as it is, once all has come about. -/
import Derived.Test.YtabfaambilbpeaaQAxTz
import Derived.Test.YtabfaambilbpeaaQAxBa
import Derived.Test.YtabfaambilbpeaaQAxIb
import Derived.Test.YtabfaambilbpeaaQAxVc
import Derived.Test.YtabfaambilbpeaaQAxVd
import Derived.Test.YtabfaambilbpeaaQAxEq
/- Entries that are few, over values without memory. -/
namespace Go.Proofs.Ytabfaambilbpeaa.Ax
open Go.RowKit Go By
set_option linter.unusedSimpArgs false
set_option linter.unusedVariables false
set_option maxRecDepth 10000

/-! ### Entries that are few -/
def fewE (e : En) : Bool := decide (e.good.length ≤ 10 ∧ e.bad.length ≤ 10 ∧ e.cache.length ≤ 10 ∧ e.reply.length ≤ 300 ∧ e.from_.length ≤ 300 ∧ e.to.length ≤ 300)
def fewEL (l : List En) (n : Int) : Bool := decide ((l.length : Int) ≤ n) && l.all fewE
theorem entry_c (e : En) (h : List (List AV)) : Contract Try.prog 47 [.agg (enC e)] h (.v (.bool (!fewE e))) h [] := by
  refine contract_of k47 mixed (by simp [c47]) fun hh hargs => ?_
  simp [c47, enC_mk]
  by_cases q1 : e.good.length ≤ 10
  · have p1 : ¬ (10 : Int) < e.good.length := by omega
    by_cases q2 : e.bad.length ≤ 10
    · have p2 : ¬ (10 : Int) < e.bad.length := by omega
      by_cases q3 : e.cache.length ≤ 10
      · have p3 : ¬ (10 : Int) < e.cache.length := by omega
        by_cases q4 : e.reply.length ≤ 300
        · have p4 : ¬ (300 : Int) < e.reply.length := by omega
          by_cases q5 : e.from_.length ≤ 300
          · have p5 : ¬ (300 : Int) < e.from_.length := by omega
            by_cases q6 : e.to.length ≤ 300
            · have p6 : ¬ (300 : Int) < e.to.length := by omega
              simp [p1, p2, p3, p4, p5, p6, q1, q2, q3, q4, q5, q6, fewE, strB_size, hh]
            · have p6 : (300 : Int) < e.to.length := by omega
              simp [p1, p2, p3, p4, p5, p6, q1, q2, q3, q4, q5, q6, fewE, strB_size, hh]
          · have p5 : (300 : Int) < e.from_.length := by omega
            simp [p1, p2, p3, p4, p5, q1, q2, q3, q4, q5, fewE, strB_size, hh]
        · have p4 : (300 : Int) < e.reply.length := by omega
          simp [p1, p2, p3, p4, q1, q2, q3, q4, fewE, strB_size, hh]
      · have p3 : (10 : Int) < e.cache.length := by omega
        simp [p1, p2, p3, q1, q2, q3, fewE, hh]
    · have p2 : (10 : Int) < e.bad.length := by omega
      simp [p1, p2, q1, q2, fewE, hh]
  · have p1 : (10 : Int) < e.good.length := by omega
    simp [p1, q1, fewE, hh]
theorem entries_n (l : List En) (m : Nat) (hm : m ≤ 1000) (h : List (List AV)) : Contract Try.prog 30 [.sl 8 (enc enC l) none .no, .v (.int .i64 (m : Int))] h (.v (.bool (fewEL l m))) h [] := by
  refine contract_of k30 mixed (by simp [c30]) fun hh hargs => ?_
  by_cases hL : (m : Int) < l.length
  · have e : fewEL l m = false := by unfold fewEL; simp; intro h1; omega
    rw [e]
    simp [c30, hL, hh]
  · have e : fewEL l m = !(l.any fun e => !fewE e) := by unfold fewEL; rw [← List.not_all_eq_any_not]; simp; omega
    rw [e]
    simp [c30, hL]
    refine xcall_self (by simp) (containsN_any mixed k46 k65 enC (fun e => !fewE e) l [] _ (by simp) (by simp) (by simp) (fun e _ => entry_c e _) (by omega)) ?_
    simp [hh]
end Go.Proofs.Ytabfaambilbpeaa.Ax
/- Layer 18: whether a cache is seen as it will be; a cache that no call made; ops that are few. -/
namespace Go.Proofs.Ytabfaambilbpeaa.Ax
open Go.RowKit Go By
set_option linter.unusedSimpArgs false
set_option linter.unusedVariables false
set_option maxRecDepth 10000

theorem CaAt.stay {lo : Nat} {h h' : List (List AV)} {i a most : Nat} {o : Option Nat} {c L : List Int} (ht : CaAt lo h i a most o c L) (hs : ∀ q, q < h.length → h'[q]? = h[q]?) (hlt : ltLL h'.length h') : CaAt lo h' i a most o c L :=
  ht.to (ht.lru.move (hs a ht.lru.i_lt) (fun b e => hs b (List.getElem?_eq_some_iff.1 (ht.lru.row b e).1).1) hlt) (hs i ht.i_lt) ht.apart.2
theorem fo_some {lo : Nat} {h : List (List AV)} {o : Option Nat} {c L : List Int} (ht : FoAt lo h o c L) (hL : L ≠ []) : ∃ b, o = some b ∧ h[b]? = some (intsA c) ∧ c.take L.length = L := by
  cases o with
  | none => exact absurd (ht.emp rfl) hL
  | some b => obtain ⟨h1, h2, h3, h4, h5⟩ := ht.row b rfl; exact ⟨b, rfl, h1, h4⟩
theorem cawake_c (h : List (List AV)) : Contract Try.prog 31 [] h (.v (.bool true)) h [] := by
  refine contract_of k31 mixed (by simp [c31]) fun hh hargs => ?_
  have t0 := newCa_at (lo := h.length) hh 2 (Nat.le_refl _)
  have o0 := newLr_ok (most := 2) (by omega) (by omega)
  obtain ⟨h1, o1, c1, k1, t1, s1, l1, q1⟩ := csettles_e t0 o0 [⟨1, 1⟩, ⟨1, 2⟩] (by simp)
  have v1 : opsL 2 [] [⟨1, 1⟩, ⟨1, 2⟩] = [1, 2] := rfl
  have ok1 : LrOk 2 (opsL 2 [] [⟨1, 1⟩, ⟨1, 2⟩]) := o0.ops
  rw [v1] at t1 ok1
  obtain ⟨h2, o2, c2, k2, t2, s2, l2⟩ := cspec_c t1 ok1 [⟨0, false, [], [], [], [], [⟨3, 1⟩, ⟨2, 2⟩], []⟩] (by simp) (by simp)
  have v2 : specL [1, 2] [⟨0, false, [], [], [], [], [⟨3, 1⟩, ⟨2, 2⟩], []⟩] = [1] := rfl
  rw [v2] at k2 t2
  obtain ⟨b2, rfl, r2, r2'⟩ := fo_some t2 (by simp)
  have T2 := t1.stay s2 t2.lt
  obtain ⟨h3, o3, c3, k3, t3, s3, l3⟩ := cfold_c t2.lt [1, 2] [⟨3, 1⟩] (by simp)
  have v3 : foldL [1, 2] [⟨3, 1⟩] = [2, 1] := rfl
  rw [v3] at k3 t3
  obtain ⟨b3, rfl, r3, r3'⟩ := fo_some t3 (by simp)
  have g1 := equal_bs (h := h2) (xs := [1]) (ys := [1]) r2 r2' (by simp)
  have g2 := equal1_any (P := Try.prog) mixed k19 [1, 2] [1, 2] h2 (by simp)
  have g3 := equal_bs (h := h3) (xs := [2, 1]) (ys := [2, 1]) r3 r3' (by simp)
  have hl0 : (newCa h 2).length = h.length + 2 := by simp [newCa, newLr]
  have below : ∀ q, q < h.length → h3[q]? = h[q]? := fun q hq => by
    rw [s3 q (by omega), s2 q (by omega), s1 q (by omega) (by omega) (fun e => by cases e)]
    unfold newCa newLr
    rw [List.append_assoc, List.getElem?_append_left hq]
  have htk : h3.take h.length = h := by
    apply List.ext_getElem?
    intro q
    rw [List.getElem?_take]
    split
    · rename_i hq; exact below q hq
    · rename_i hq; rw [List.getElem?_eq_none (by omega)]
  simp only [enc, List.map_cons, List.map_nil, enC_mk, toC_mk, bytesE, intC, ocC] at k1 k2 k3 g1 g2 g3
  simp only [foV, List.length_cons, List.length_nil] at k2 k3
  simp [c31]
  refine xcall_self (by simp) (cnew_c (most := 2) (by omega) (by omega) h) ?_
  simp
  refine xcall_of k1 (by simp) (by simp) ?_
  simp
  refine xcall_of k2 (by simp) (by simp) ?_
  simp
  refine xcall_of g1 (by simp) (by simp) ?_
  simp
  refine xcall_self (by simp) (clist_c T2 (by simp)) ?_
  simp [enc, intC]
  refine xcall_of g2 (by simp) (by simp) ?_
  simp [eqL]
  refine xcall_of k3 (by simp) (by simp) ?_
  simp
  refine xcall_of g3 (by simp) (by simp) ?_
  simp [hh]
  exact ⟨by omega, by rw [htk]; exact leqH_refl _ _⟩
/-! ### Ops that are few -/
def ocL (l : List Oc) : List AV := [.sl 2 (enc ocC l) none .no]
@[simp] theorem ocL_lt (n : Nat) (l : List (List Oc)) : ltLL n (enc ocL l) = True := eq_true (ltLL_of' fun j e he => by obtain ⟨s, _, rfl⟩ := List.mem_map.1 (List.mem_of_getElem? he); simp [ocL])
theorem sh_ocCLL : Shape Try.prog 49 (fun l : List (List Oc) => [.sl 1 (enc ocL l) none .no]) (fun l => l.length ≤ maxLen ∧ ∀ x ∈ l, x.length ≤ maxLen ∧ ∀ y ∈ x, OkOc y) := shape_slice Try.underlying49 (by kernel_rfl) (by decide) sh_ocCL (fun _ => rfl)
def fewL (l : List (List Oc)) : Bool := decide (l.length ≤ 40 ∧ ∀ x ∈ l, x.length ≤ 10)
theorem fewL_iff {l : List (List Oc)} : fewL l = true ↔ l.length ≤ 40 ∧ ∀ x ∈ l, x.length ≤ 10 := by unfold fewL; simp
theorem few_c (l : List (List Oc)) (hl : l.length ≤ maxLen) (h : List (List AV)) : Contract Try.prog 29 [.sl 1 (enc ocL l) none .no] h (.v (.bool (fewL l))) h [] := by
  refine contract_of k29 mixed (by simp [c29]) fun hh hargs => ?_
  simp [c29]
  refine xloop_ok (D := Nat) (fun j => ⟨[(5, .sl 1 (enc ocL l) none .no), (6, .v (.int .i64 (l.length : Int))), (7, .v (.int .i64 (j : Int)))], [], h, []⟩) (fun j => j ≤ l.length ∧ j ≤ 40 ∧ ∀ x ∈ l.take j, x.length ≤ 10) (fun j => l.length - j) 0 ⟨by omega, by omega, fun x hx => by simp at hx⟩ ?_ ?_
  · simp [Leq, hh, leqH_take]
    done
  · rintro j ⟨hj, hj40, hp⟩
    by_cases hlt : j < l.length
    · have hw : IntKind.i64.wrap ((j : Int) + 1) = (j : Int) + 1 := wrap64 (by omega) (by omega)
      by_cases h40 : 40 ≤ (j : Int)
      · have hf : fewL l = false := by
          cases hb : fewL l with
          | false => rfl
          | true => have := (fewL_iff.1 hb).1; omega
        simp [hlt, ocL, h40, hh, hf]
        done
      · by_cases hle : l[j].length ≤ 10
        · have n1 : ¬ (10 : Int) < (l[j].length : Int) := by omega
          simp [hlt, ocL, h40, n1, hw]
          refine ⟨j + 1, ⟨by omega, by omega, fun x hx => ?_⟩, by omega, ?_⟩
          · rw [take_next hlt] at hx
            rcases List.mem_append.1 hx with hx | hx
            · exact hp x hx
            · rw [List.mem_singleton.1 hx]; exact hle
          · simp [Leq, hh, leqH_take]
            done
        · have n1 : (10 : Int) < (l[j].length : Int) := by omega
          have hf : fewL l = false := by
            cases hb : fewL l with
            | false => rfl
            | true => exact absurd ((fewL_iff.1 hb).2 _ (List.getElem_mem hlt)) hle
          simp [hlt, ocL, h40, n1, hh, hf]
          done
    · have : j = l.length := by omega
      subst this
      rw [List.take_length] at hp
      have hf : fewL l = true := fewL_iff.2 ⟨hj40, hp⟩
      simp [hh, hf]
      done
/-! ### A cache that no call made -/
section
variable {h : List (List AV)}
theorem nclist_c : Contract Try.prog 34 [.v (.pointer none)] h (.sl 0 [] (some true) .exact) h [] := by
  refine contract_of k34 mixed (by simp [c34]) fun hh hargs => ?_
  simp [c34, hh]
theorem ncmost_c : Contract Try.prog 39 [.v (.pointer none)] h (.v (.int .i64 0)) h [] := by
  refine contract_of k39 mixed (by simp [c39]) fun hh hargs => ?_
  simp [c39, hh]
theorem ncsettle_c (ops : List Oc) : Contract Try.prog 32 [.v (.pointer none), .sl 2 (enc ocC ops) none .no] h (.sl 0 [] (some true) .exact) h [] := by
  refine contract_of k32 mixed (by simp [c32]) fun hh hargs => ?_
  simp [c32, hh]
theorem ncspec_c (l : List En) : Contract Try.prog 37 [.v (.pointer none), .sl 8 (enc enC l) none .no] h (.sl 0 [] (some true) .exact) h [] := by
  refine contract_of k37 mixed (by simp [c37]) fun hh hargs => ?_
  simp [c37]
  refine xcall_self (by simp) ncmost_c ?_
  simp [hh]
def zeroC18 : List AV := [.v (.pointer none), .v (.int .i64 0)]
theorem nllist_c : Contract Try.prog 20 [.v (.pointer none)] h (.sl 0 [] (some true) .exact) h [] := by
  refine contract_of k20 mixed (by simp [c20]) fun hh hargs => ?_
  simp [c20, hh]
theorem zclist_c {i : Nat} (hi : h[i]? = some zeroC18) : Contract Try.prog 34 [.box i 0] h (.sl 0 [] (some true) .exact) h [] := by
  unfold zeroC18 at hi
  refine contract_of k34 mixed (by simp [c34]) fun hh hargs => ?_
  simp [c34, hi]
  refine xcall_self (by simp) nllist_c ?_
  simp [hh]
theorem zcmost_c {i : Nat} (hi : h[i]? = some zeroC18) : Contract Try.prog 39 [.box i 0] h (.v (.int .i64 0)) h [] := by
  unfold zeroC18 at hi
  refine contract_of k39 mixed (by simp [c39]) fun hh hargs => ?_
  simp [c39, hi, hh]
theorem zcspec_c {i : Nat} (hi : h[i]? = some zeroC18) (l : List En) : Contract Try.prog 37 [.box i 0, .sl 8 (enc enC l) none .no] h (.sl 0 [] (some true) .exact) h [] := by
  refine contract_of k37 mixed (by simp [c37]) fun hh hargs => ?_
  simp [c37]
  refine xcall_self (by simp) (zcmost_c hi) ?_
  simp [hh]
theorem zcsettle_c {i : Nat} (hi : h[i]? = some zeroC18) (op : Oc) : Contract Try.prog 48 [.box i 0, .agg (ocC op)] h (.tup []) h [] := by
  have hil := (List.getElem?_eq_some_iff.1 hi).1
  unfold zeroC18 at hi
  have e2 : ∀ xs : List (List AV), (h ++ xs)[i]? = some [.v (.pointer none), .v (.int .i64 0)] := fun xs => by rw [List.getElem?_append_left hil]; exact hi
  refine contract_of k48 mixed (by simp [c48]) fun hh hargs => ?_
  have hni : ¬ i = h.length := by omega
  by_cases k1 : op.kind = 1
  · simp [c48, ocC, k1, e2]
    refine xcall_self (by simp) (nladd_c _) ?_
    simp [hh]
    done
  by_cases k2 : op.kind = 2
  · simp [c48, ocC, k2, e2]
    refine xcall_self (by simp) (nlremove_c _) ?_
    simp [hh]
    done
  by_cases k3 : op.kind = 3
  · simp [c48, ocC, k3, e2]
    refine xcall_self (by simp) (nltouch_c _) ?_
    simp [hh]
    done
  · simp [c48, ocC, k1, k2, k3, hh]
    done
theorem zcsettles_c {i : Nat} (hi : h[i]? = some zeroC18) (ops : List Oc) (hops : ops.length ≤ 1000000) : Contract Try.prog 32 [.box i 0, .sl 2 (enc ocC ops) none .no] h (.sl 0 [] (some true) .exact) h [] := by
  have hil := (List.getElem?_eq_some_iff.1 hi).1
  have hi2 := hi
  unfold zeroC18 at hi2
  refine contract_of k32 mixed (by simp [c32]) fun hh hargs => ?_
  simp [c32]
  refine xcall_self (by simp) (zclist_c hi) ?_
  simp
  refine xloop_ok (D := Nat) (fun j => ⟨[(0, .box i 0), (5, .sl 0 [] (some true) .exact), (12, .sl 2 (enc ocC ops) none .no), (13, .v (.int .i64 (ops.length : Int))), (14, .v (.int .i64 (j : Int)))], [], h, []⟩) (fun j => j ≤ ops.length) (fun j => ops.length - j) 0 (by omega) ?_ ?_
  · simp [Leq, hh, leqH_take, hil]
    done
  · intro j hj
    by_cases hlt : j < ops.length
    · have hw : IntKind.i64.wrap ((j : Int) + 1) = (j : Int) + 1 := wrap64 (by omega) (by omega)
      have hs := zcsettle_c (h := h ++ [ocC ops[j]]) (i := i) (by rw [List.getElem?_append_left hil]; exact hi) ops[j]
      simp only [ocC] at hs
      simp [hlt, ocC]
      refine xcall_self (by simp) hs ?_
      simp [hw]
      refine ⟨j + 1, by omega, by omega, ?_⟩
      simp [Leq, hh, leqH_take, hil]
      done
    · have : j = ops.length := by omega
      subst this
      simp [hi2]
      refine xcall_self (by simp) (delf_x _ _ _ _ _) ?_
      simp [hh]
      done
theorem cnobody_c (ops : List Oc) (l : List En) : Contract Try.prog 9 [.sl 2 (enc ocC ops) none .no, .sl 8 (enc enC l) none .no] [] (.v (.bool true)) [] [] := by
  refine contract_of k9 mixed (by simp [c9]) fun hh hargs => ?_
  have hent := entries_n l 20 (by omega) []
  have hcast : ((20 : Nat) : Int) = 20 := rfl
  rw [hcast] at hent
  by_cases hops : 60 < (ops.length : Int)
  · simp [c9, hops]
    refine xcall_self (by simp) (cawake_c _) ?_
    simp
    done
  simp [c9, hops]
  refine xcall_self (by simp) hent ?_
  cases hE : fewEL l 20 with
  | false =>
    simp
    refine xcall_self (by simp) (cawake_c _) ?_
    simp
    done
  | true =>
    have z0 : ([zeroC18] : List (List AV))[0]? = some zeroC18 := rfl
    have hz : zeroC18 = [.v (.pointer none), .v (.int .i64 0)] := rfl
    simp
    refine xcall_self (by simp) (ncsettle_c _) ?_
    simp
    refine xcall_self (by simp) (zcsettles_c z0 _ (by omega)) ?_
    simp
    refine xcall_self (by simp) nclist_c ?_
    simp
    refine xcall_self (by simp) (ncspec_c _) ?_
    simp
    refine xcall_self (by simp) (zcspec_c z0 _) ?_
    simp
    refine xcall_self (by simp) ncmost_c ?_
    simp
    refine xcall_self (by simp) (cawake_c _) ?_
    simp
    done
end
end Go.Proofs.Ytabfaambilbpeaa.Ax
namespace Go.Proofs.Ytabfaambilbpeaa.Ax
open Go.RowKit Go By
set_option linter.unusedSimpArgs false
set_option linter.unusedVariables false
set_option maxRecDepth 10000

theorem opL_one {most : Nat} {L : List Int} (h : L.length < most) (op : Oc) : opL most L op = oneL L op := by
  unfold opL oneL addL
  have hn : ¬ most ≤ L.length := by omega
  simp [hn]
theorem opsL_fold {most : Nat} : ∀ (ops : List Oc) {L : List Int}, L.length + ops.length ≤ most → opsL most L ops = foldL L ops
  | [], _, _ => rfl
  | op :: r, L, h => by
    rw [List.length_cons] at h
    have h1 := oneL_len L op
    show opsL most (opL most L op) r = foldL (oneL L op) r
    rw [opL_one (by omega)]
    exact opsL_fold r (by omega)
def opsE (most : Nat) (L : List Int) (l : List En) : List Int := l.foldl (fun L e => opsL most L e.cache) L
theorem opsE_next {most : Nat} {L : List Int} {l : List En} {j : Nat} (hj : j < l.length) : opsE most L (l.take (j + 1)) = opsL most (opsE most L (l.take j)) l[j].cache := by
  unfold opsE; rw [take_next hj, List.foldl_append]; rfl
theorem opsE_spec {most : Nat} : ∀ (l : List En) {L : List Int}, (∀ e ∈ l, e.cache.length ≤ 10) → L.length + 10 * l.length ≤ most → opsE most L l = specL L l
  | [], _, _, _ => rfl
  | e :: r, L, h, hb => by
    rw [List.length_cons] at hb
    have h1 := h e (List.mem_cons_self ..)
    have h2 := foldL_len e.cache L
    show opsE most (opsL most L e.cache) r = specL (foldL L e.cache) r
    rw [opsL_fold _ (by omega)]
    exact opsE_spec r (fun x hx => h x (List.mem_cons_of_mem _ hx)) (by omega)
section
variable {lo : Nat} {h : List (List AV)} {i a most : Nat} {o : Option Nat} {c L : List Int}
theorem csettles_any (ht : CaAt lo h i a most o c L) (ho : LrOk most L) (ops : List Oc) (hops : ops.length ≤ 1000000) : ∃ r : AV, r.idOf = none ∧ r.unown = r ∧ CDoes 32 [.box i 0, .sl 2 (enc ocC ops) none .no] lo h i a most o r (opsL most L ops) := by
  by_cases hL : L = []
  · subst hL
    exact ⟨_, rfl, rfl, csettles_e ht ho ops hops⟩
  · obtain ⟨h', o', c', cg, k1, t1, s1, l1, q1, _⟩ := csettles_v ht ho hL ops hops
    exact ⟨_, rfl, rfl, h', o', c', k1, t1, s1, by omega, fun b e => by rcases q1 b e with e | e; exact .inl e; right; omega⟩
theorem later_chain (ht : CaAt lo h i a most o c L) (ho : LrOk most L) (l : List En) (hfew : ∀ e ∈ l, e.cache.length ≤ 10) : ∃ F : Nat → CS, F 0 = ⟨h, o, c⟩ ∧ (∀ j ≤ l.length, CS.Ok lo h i a most o (opsE most L (l.take j)) (F j)) ∧
    ∀ j < l.length, ∀ hj : j < l.length, ∃ r : AV, r.idOf = none ∧ r.unown = r ∧ Contract Try.prog 32 [.box i 0, .sl 2 (enc ocC l[j].cache) none .no] ((F j).H ++ [enC l[j]]) r (F (j + 1)).H (a :: (F j).o.toList) := by
  refine chain_of (fun j s => CS.Ok lo h i a most o (opsE most L (l.take j)) s) (fun j s s' => ∀ hj : j < l.length, ∃ r : AV, r.idOf = none ∧ r.unown = r ∧ Contract Try.prog 32 [.box i 0, .sl 2 (enc ocC l[j].cache) none .no] (s.H ++ [enC l[j]]) r s'.H (a :: s.o.toList)) ⟨h, o, c⟩ ⟨by simpa [opsE] using ht, by simpa [opsE] using ho, fun _ _ _ _ => rfl, Nat.le_refl _, fun b e => .inl e⟩ l.length fun j hj s hs => ?_
  have hc := hfew l[j] (List.getElem_mem hj)
  obtain ⟨r, hr1, hr2, h', o', c', k1, t1, s1, l1, q1⟩ := csettles_any (hs.at_.app2 [enC l[j]] (by simp)) hs.ok l[j].cache (by omega)
  have hl : s.H.length + 1 ≤ h'.length := by simpa using l1
  have hlen := hs.len
  refine ⟨⟨h', o', c'⟩, ⟨by rw [opsE_next hj]; exact t1, by rw [opsE_next hj]; exact hs.ok.ops, fun q hq h2 h3 => ?_, by show h.length ≤ h'.length; omega, fun b e => ?_⟩, fun _ => ⟨r, hr1, hr2, k1⟩⟩
  · show h'[q]? = h[q]?
    rw [s1 q (by simp; omega) h2 (fun e => by rcases hs.new q e with e | e; exact h3 e; omega), List.getElem?_append_left (by omega)]
    exact hs.stay q hq h2 h3
  · rcases q1 b e with e | e
    · exact hs.new b e
    · simp at e; right; omega
end
theorem clater_c (first : List Oc) (later : List En) : Contract Try.prog 7 [.sl 2 (enc ocC first) none .no, .sl 8 (enc enC later) none .no] [] (.v (.bool true)) [] [] := by
  refine contract_of k7 mixed (by simp [c7]) fun hh hargs => ?_
  have hent := entries_n later 20 (by omega) []
  have hcast : ((20 : Nat) : Int) = 20 := rfl
  rw [hcast] at hent
  by_cases hops : 60 < (first.length : Int)
  · simp [c7, hops]
    refine xcall_self (by simp) (cawake_c _) ?_
    simp
    done
  simp [c7, hops]
  refine xcall_self (by simp) hent ?_
  cases hE : fewEL later 20 with
  | false =>
    simp
    refine xcall_self (by simp) (cawake_c _) ?_
    simp
    done
  | true =>
    have hE2 : later.length ≤ 20 ∧ ∀ e ∈ later, e.cache.length ≤ 10 := by
      unfold fewEL at hE
      simp [fewE] at hE
      exact ⟨by omega, fun e he => (hE.2 e he).2.2.1⟩
    obtain ⟨hl20, hfew⟩ := hE2
    have t0 := newCa_at (lo := 0) (h := []) (by simp) 4096 (Nat.zero_le _)
    have o0 := newLr_ok (most := 4096) (by omega) (by omega)
    obtain ⟨h1, o1, c1, k1, t1, s1, l1, q1⟩ := csettles_e t0 o0 first (by omega)
    have ok1 : LrOk 4096 (opsL 4096 [] first) := o0.ops
    have e1 : opsL 4096 [] first = foldL [] first := opsL_fold first (by simp; omega)
    have hlen1 := foldL_len first []
    obtain ⟨L1, hL1⟩ : ∃ L1, L1 = opsL 4096 [] first := ⟨_, rfl⟩
    have hL1l : L1.length ≤ 60 := by rw [hL1, e1]; simp at hlen1; omega
    rw [← hL1] at t1 ok1
    obtain ⟨h2, o2, c2, k2, t2, s2, l2⟩ := cspec_c t1 ok1 later (by omega) hfew
    have T2 := t1.stay s2 t2.lt
    obtain ⟨F, f0, fI, fR⟩ := later_chain T2 ok1 later hfew
    have fn := fI later.length (Nat.le_refl _)
    rw [List.take_length] at fn
    have hW : opsE 4096 L1 later = specL L1 later := opsE_spec later hfew (by omega)
    have hWl := specL_len later L1 hfew
    rw [hW] at fn
    obtain ⟨W, hWd⟩ : ∃ W, W = specL L1 later := ⟨_, rfl⟩
    rw [← hWd] at fn k2 t2 hWl
    have f00 : (F 0).H = h2 := by rw [f0]
    have hl0 : (newCa [] 4096).length = 2 := rfl
    have hle1 : 2 ≤ h1.length := by rw [hl0] at l1; exact l1
    have hlt2 := t2.lt
    have hfo := foV_lt t2 W.length
    have n4096 : ((4096 : Nat) : Int) = 4096 := rfl
    have hnew := cnew_c (most := 4096) (by omega) (by omega) []
    rw [n4096] at hnew
    have hwant : ∀ b, o2 = some b → (F later.length).H[b]? = some (intsA c2) ∧ c2.take W.length = W := fun b e => by
      obtain ⟨r1, r2, r3, r4, r5⟩ := t2.row b e
      have hb1 : h1.length ≤ b := r5
      refine ⟨?_, r4⟩
      rw [fn.stay b (List.getElem?_eq_some_iff.1 r1).1 (fun e => by have e : b = 0 := e; omega) (fun e => by have := (List.getElem?_eq_some_iff.1 (t1.lru.row b e).1).1; omega)]
      exact r1
    simp
    refine xcall_self (by simp) hnew ?_
    simp
    refine xcall_self (by simp) k1 ?_
    simp
    refine xcall_self (by simp) k2 ?_
    simp
    refine xloop_ok (D := Nat) (fun j => ⟨[(5, .box 1 0), (7, foV o2 W.length), (35, .sl 8 (enc enC later) none .no), (36, .v (.int .i64 (later.length : Int))), (37, .v (.int .i64 (j : Int)))], [], (F j).H, []⟩) (fun j => j ≤ later.length) (fun j => later.length - j) 0 (by omega) ?_ ?_
    · rw [f00]
      have hi : 1 < h2.length := by omega
      simp [Leq, hlt2, leqH_take, hfo, hi]
      done
    · intro j hj
      have fj := fI j hj
      have hltj := fj.at_.lru.lt
      have hlj := fj.len
      have hij : 1 < (F j).H.length := by omega
      by_cases hlt : j < later.length
      · obtain ⟨r, hr1, hr2, kj⟩ := fR j hlt hlt
        have fj1 := fI (j + 1) (by omega)
        have hltj1 := fj1.at_.lru.lt
        have hl1 := fj1.len
        have hij1 : 1 < (F (j + 1)).H.length := by omega
        have hfo1 : (foV o2 W.length).lt (F (j + 1)).H.length := by
          cases o2 with
          | none => exact trivial
          | some b =>
            have hb : b < h2.length := hfo
            show b < (F (j + 1)).H.length
            omega
        have hw : IntKind.i64.wrap ((j : Int) + 1) = (j : Int) + 1 := wrap64 (by omega) (by omega)
        simp [hlt, enC_mk]
        simp only [enC_mk] at kj
        refine xcall_self (by simp) kj ?_
        simp [hw, hr1, hr2]
        refine ⟨j + 1, by omega, by omega, ?_⟩
        simp [Leq, hltj1, leqH_take, hfo1, hij1]
        done
      · have : j = later.length := by omega
        subst this
        simp
        refine xcall_self (by simp) (clist_c fn.at_ (by omega)) ?_
        simp
        cases o2 with
        | none =>
          have hWe := t2.emp rfl
          simp [foV]
          refine xcall_of (equal1_any (P := Try.prog) mixed k19 W [] _ (by omega)) (by simp) (by simp) ?_
          rw [hWe]
          simp [eqL]
          refine xcall_self (by simp) (cawake_c _) ?_
          simp
          done
        | some b =>
          obtain ⟨w1, w2⟩ := hwant b rfl
          simp [foV]
          refine xcall_of (equal_sb (xs := W) (ys := W) w1 w2 (by omega)) (by simp) (by simp) ?_
          simp
          refine xcall_self (by simp) (cawake_c _) ?_
          simp
          done
theorem clater_l (first : List Oc) (later : List En) (h0 : first.length ≤ maxLen ∧ ∀ x ∈ first, OkOc x) : Contract Try.prog 7 [.sl 2 (enc ocC first) none .no, .sl 8 (enc enC later) none .no] [] (.v (.bool true)) [] [] := clater_c first later
end Go.Proofs.Ytabfaambilbpeaa.Ax
