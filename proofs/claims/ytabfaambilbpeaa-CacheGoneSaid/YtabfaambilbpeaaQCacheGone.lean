/- Whoever a cache tells is gone, when some ops are settled, was there ahead of them and is not there behind them; what is there has nothing twice, and never more than may be. -/
import Derived.Test.YtabfaambilbpeaaQAxTz
import Derived.Test.YtabfaambilbpeaaQAxBa
import Derived.Test.YtabfaambilbpeaaQAxIb
import Derived.Test.YtabfaambilbpeaaQAxVc
import Derived.Test.YtabfaambilbpeaaQAxVd
import Derived.Test.YtabfaambilbpeaaQAxEq
import Derived.Test.YtabfaambilbpeaaRows
import Derived.Test.YtabfaambilbpeaaQElems
import Derived.Test.YtabfaambilbpeaaQAxX
import Derived.WalkKit
import Derived.ProofKit
import Derived.OpenShut
import Derived.ShutString
import Derived.ChangeOld
import Derived.Below
/- Entries that are few, over values without memory. -/
namespace Go.Proofs.Ytabfaambilbpeaa.Ax
open Go.RowKit Go By
set_option linter.unusedSimpArgs false
set_option linter.unusedVariables false
set_option maxRecDepth 10000

/-! ### Entries that are few -/
def fewE (e : En) : Bool := decide (e.good.length ≤ 10 ∧ e.bad.length ≤ 10 ∧ e.cache.length ≤ 10 ∧ e.reply.length ≤ 300 ∧ e.from_.length ≤ 300 ∧ e.to.length ≤ 300)
def fewEL (l : List En) (n : Int) : Bool := decide ((l.length : Int) ≤ n) && l.all fewE
theorem entry_c (e : En) (h : List (List AV)) : Contract Try.prog 47 [.agg (enC e)] h (.v (.bool (!fewE e))) h [] := by
  refine contract_of k47 mixed (by simp [c47]) fun hh hargs => ?_
  simp [c47, enC_mk]
  by_cases q1 : e.good.length ≤ 10
  · have p1 : ¬ (10 : Int) < e.good.length := by omega
    by_cases q2 : e.bad.length ≤ 10
    · have p2 : ¬ (10 : Int) < e.bad.length := by omega
      by_cases q3 : e.cache.length ≤ 10
      · have p3 : ¬ (10 : Int) < e.cache.length := by omega
        by_cases q4 : e.reply.length ≤ 300
        · have p4 : ¬ (300 : Int) < e.reply.length := by omega
          by_cases q5 : e.from_.length ≤ 300
          · have p5 : ¬ (300 : Int) < e.from_.length := by omega
            by_cases q6 : e.to.length ≤ 300
            · have p6 : ¬ (300 : Int) < e.to.length := by omega
              simp [p1, p2, p3, p4, p5, p6, q1, q2, q3, q4, q5, q6, fewE, strB_size, hh]
            · have p6 : (300 : Int) < e.to.length := by omega
              simp [p1, p2, p3, p4, p5, p6, q1, q2, q3, q4, q5, q6, fewE, strB_size, hh]
          · have p5 : (300 : Int) < e.from_.length := by omega
            simp [p1, p2, p3, p4, p5, q1, q2, q3, q4, q5, fewE, strB_size, hh]
        · have p4 : (300 : Int) < e.reply.length := by omega
          simp [p1, p2, p3, p4, q1, q2, q3, q4, fewE, strB_size, hh]
      · have p3 : (10 : Int) < e.cache.length := by omega
        simp [p1, p2, p3, q1, q2, q3, fewE, hh]
    · have p2 : (10 : Int) < e.bad.length := by omega
      simp [p1, p2, q1, q2, fewE, hh]
  · have p1 : (10 : Int) < e.good.length := by omega
    simp [p1, q1, fewE, hh]
theorem entries_n (l : List En) (m : Nat) (hm : m ≤ 1000) (h : List (List AV)) : Contract Try.prog 30 [.sl 8 (enc enC l) none .no, .v (.int .i64 (m : Int))] h (.v (.bool (fewEL l m))) h [] := by
  refine contract_of k30 mixed (by simp [c30]) fun hh hargs => ?_
  by_cases hL : (m : Int) < l.length
  · have e : fewEL l m = false := by unfold fewEL; simp; intro h1; omega
    rw [e]
    simp [c30, hL, hh]
  · have e : fewEL l m = !(l.any fun e => !fewE e) := by unfold fewEL; rw [← List.not_all_eq_any_not]; simp; omega
    rw [e]
    simp [c30, hL]
    refine xcall_self (by simp) (containsN_any mixed k46 k65 enC (fun e => !fewE e) l [] _ (by simp) (by simp) (by simp) (fun e _ => entry_c e _) (by omega)) ?_
    simp [hh]
end Go.Proofs.Ytabfaambilbpeaa.Ax
/- Layer 18: whether a cache is seen as it will be; a cache that no call made; ops that are few. -/
namespace Go.Proofs.Ytabfaambilbpeaa.Ax
open Go.RowKit Go By
set_option linter.unusedSimpArgs false
set_option linter.unusedVariables false
set_option maxRecDepth 10000

theorem CaAt.stay {lo : Nat} {h h' : List (List AV)} {i a most : Nat} {o : Option Nat} {c L : List Int} (ht : CaAt lo h i a most o c L) (hs : ∀ q, q < h.length → h'[q]? = h[q]?) (hlt : ltLL h'.length h') : CaAt lo h' i a most o c L :=
  ht.to (ht.lru.move (hs a ht.lru.i_lt) (fun b e => hs b (List.getElem?_eq_some_iff.1 (ht.lru.row b e).1).1) hlt) (hs i ht.i_lt) ht.apart.2
theorem fo_some {lo : Nat} {h : List (List AV)} {o : Option Nat} {c L : List Int} (ht : FoAt lo h o c L) (hL : L ≠ []) : ∃ b, o = some b ∧ h[b]? = some (intsA c) ∧ c.take L.length = L := by
  cases o with
  | none => exact absurd (ht.emp rfl) hL
  | some b => obtain ⟨h1, h2, h3, h4, h5⟩ := ht.row b rfl; exact ⟨b, rfl, h1, h4⟩
theorem cawake_c (h : List (List AV)) : Contract Try.prog 31 [] h (.v (.bool true)) h [] := by
  refine contract_of k31 mixed (by simp [c31]) fun hh hargs => ?_
  have t0 := newCa_at (lo := h.length) hh 2 (Nat.le_refl _)
  have o0 := newLr_ok (most := 2) (by omega) (by omega)
  obtain ⟨h1, o1, c1, k1, t1, s1, l1, q1⟩ := csettles_e t0 o0 [⟨1, 1⟩, ⟨1, 2⟩] (by simp)
  have v1 : opsL 2 [] [⟨1, 1⟩, ⟨1, 2⟩] = [1, 2] := rfl
  have ok1 : LrOk 2 (opsL 2 [] [⟨1, 1⟩, ⟨1, 2⟩]) := o0.ops
  rw [v1] at t1 ok1
  obtain ⟨h2, o2, c2, k2, t2, s2, l2⟩ := cspec_c t1 ok1 [⟨0, false, [], [], [], [], [⟨3, 1⟩, ⟨2, 2⟩], []⟩] (by simp) (by simp)
  have v2 : specL [1, 2] [⟨0, false, [], [], [], [], [⟨3, 1⟩, ⟨2, 2⟩], []⟩] = [1] := rfl
  rw [v2] at k2 t2
  obtain ⟨b2, rfl, r2, r2'⟩ := fo_some t2 (by simp)
  have T2 := t1.stay s2 t2.lt
  obtain ⟨h3, o3, c3, k3, t3, s3, l3⟩ := cfold_c t2.lt [1, 2] [⟨3, 1⟩] (by simp)
  have v3 : foldL [1, 2] [⟨3, 1⟩] = [2, 1] := rfl
  rw [v3] at k3 t3
  obtain ⟨b3, rfl, r3, r3'⟩ := fo_some t3 (by simp)
  have g1 := equal_bs (h := h2) (xs := [1]) (ys := [1]) r2 r2' (by simp)
  have g2 := equal1_any (P := Try.prog) mixed k19 [1, 2] [1, 2] h2 (by simp)
  have g3 := equal_bs (h := h3) (xs := [2, 1]) (ys := [2, 1]) r3 r3' (by simp)
  have hl0 : (newCa h 2).length = h.length + 2 := by simp [newCa, newLr]
  have below : ∀ q, q < h.length → h3[q]? = h[q]? := fun q hq => by
    rw [s3 q (by omega), s2 q (by omega), s1 q (by omega) (by omega) (fun e => by cases e)]
    unfold newCa newLr
    rw [List.append_assoc, List.getElem?_append_left hq]
  have htk : h3.take h.length = h := by
    apply List.ext_getElem?
    intro q
    rw [List.getElem?_take]
    split
    · rename_i hq; exact below q hq
    · rename_i hq; rw [List.getElem?_eq_none (by omega)]
  simp only [enc, List.map_cons, List.map_nil, enC_mk, toC_mk, bytesE, intC, ocC] at k1 k2 k3 g1 g2 g3
  simp only [foV, List.length_cons, List.length_nil] at k2 k3
  simp [c31]
  refine xcall_self (by simp) (cnew_c (most := 2) (by omega) (by omega) h) ?_
  simp
  refine xcall_of k1 (by simp) (by simp) ?_
  simp
  refine xcall_of k2 (by simp) (by simp) ?_
  simp
  refine xcall_of g1 (by simp) (by simp) ?_
  simp
  refine xcall_self (by simp) (clist_c T2 (by simp)) ?_
  simp [enc, intC]
  refine xcall_of g2 (by simp) (by simp) ?_
  simp [eqL]
  refine xcall_of k3 (by simp) (by simp) ?_
  simp
  refine xcall_of g3 (by simp) (by simp) ?_
  simp [hh]
  exact ⟨by omega, by rw [htk]; exact leqH_refl _ _⟩
/-! ### Ops that are few -/
def ocL (l : List Oc) : List AV := [.sl 2 (enc ocC l) none .no]
@[simp] theorem ocL_lt (n : Nat) (l : List (List Oc)) : ltLL n (enc ocL l) = True := eq_true (ltLL_of' fun j e he => by obtain ⟨s, _, rfl⟩ := List.mem_map.1 (List.mem_of_getElem? he); simp [ocL])
theorem sh_ocCLL : Shape Try.prog 49 (fun l : List (List Oc) => [.sl 1 (enc ocL l) none .no]) (fun l => l.length ≤ maxLen ∧ ∀ x ∈ l, x.length ≤ maxLen ∧ ∀ y ∈ x, OkOc y) := shape_slice Try.underlying49 (by kernel_rfl) (by decide) sh_ocCL (fun _ => rfl)
def fewL (l : List (List Oc)) : Bool := decide (l.length ≤ 40 ∧ ∀ x ∈ l, x.length ≤ 10)
theorem fewL_iff {l : List (List Oc)} : fewL l = true ↔ l.length ≤ 40 ∧ ∀ x ∈ l, x.length ≤ 10 := by unfold fewL; simp
theorem few_c (l : List (List Oc)) (hl : l.length ≤ maxLen) (h : List (List AV)) : Contract Try.prog 29 [.sl 1 (enc ocL l) none .no] h (.v (.bool (fewL l))) h [] := by
  refine contract_of k29 mixed (by simp [c29]) fun hh hargs => ?_
  simp [c29]
  refine xloop_ok (D := Nat) (fun j => ⟨[(5, .sl 1 (enc ocL l) none .no), (6, .v (.int .i64 (l.length : Int))), (7, .v (.int .i64 (j : Int)))], [], h, []⟩) (fun j => j ≤ l.length ∧ j ≤ 40 ∧ ∀ x ∈ l.take j, x.length ≤ 10) (fun j => l.length - j) 0 ⟨by omega, by omega, fun x hx => by simp at hx⟩ ?_ ?_
  · simp [Leq, hh, leqH_take]
    done
  · rintro j ⟨hj, hj40, hp⟩
    by_cases hlt : j < l.length
    · have hw : IntKind.i64.wrap ((j : Int) + 1) = (j : Int) + 1 := wrap64 (by omega) (by omega)
      by_cases h40 : 40 ≤ (j : Int)
      · have hf : fewL l = false := by
          cases hb : fewL l with
          | false => rfl
          | true => have := (fewL_iff.1 hb).1; omega
        simp [hlt, ocL, h40, hh, hf]
        done
      · by_cases hle : l[j].length ≤ 10
        · have n1 : ¬ (10 : Int) < (l[j].length : Int) := by omega
          simp [hlt, ocL, h40, n1, hw]
          refine ⟨j + 1, ⟨by omega, by omega, fun x hx => ?_⟩, by omega, ?_⟩
          · rw [take_next hlt] at hx
            rcases List.mem_append.1 hx with hx | hx
            · exact hp x hx
            · rw [List.mem_singleton.1 hx]; exact hle
          · simp [Leq, hh, leqH_take]
            done
        · have n1 : (10 : Int) < (l[j].length : Int) := by omega
          have hf : fewL l = false := by
            cases hb : fewL l with
            | false => rfl
            | true => exact absurd ((fewL_iff.1 hb).2 _ (List.getElem_mem hlt)) hle
          simp [hlt, ocL, h40, n1, hh, hf]
          done
    · have : j = l.length := by omega
      subst this
      rw [List.take_length] at hp
      have hf : fewL l = true := fewL_iff.2 ⟨hj40, hp⟩
      simp [hh, hf]
      done
/-! ### A cache that no call made -/
section
variable {h : List (List AV)}
theorem nclist_c : Contract Try.prog 34 [.v (.pointer none)] h (.sl 0 [] (some true) .exact) h [] := by
  refine contract_of k34 mixed (by simp [c34]) fun hh hargs => ?_
  simp [c34, hh]
theorem ncmost_c : Contract Try.prog 39 [.v (.pointer none)] h (.v (.int .i64 0)) h [] := by
  refine contract_of k39 mixed (by simp [c39]) fun hh hargs => ?_
  simp [c39, hh]
theorem ncsettle_c (ops : List Oc) : Contract Try.prog 32 [.v (.pointer none), .sl 2 (enc ocC ops) none .no] h (.sl 0 [] (some true) .exact) h [] := by
  refine contract_of k32 mixed (by simp [c32]) fun hh hargs => ?_
  simp [c32, hh]
theorem ncspec_c (l : List En) : Contract Try.prog 37 [.v (.pointer none), .sl 8 (enc enC l) none .no] h (.sl 0 [] (some true) .exact) h [] := by
  refine contract_of k37 mixed (by simp [c37]) fun hh hargs => ?_
  simp [c37]
  refine xcall_self (by simp) ncmost_c ?_
  simp [hh]
def zeroC18 : List AV := [.v (.pointer none), .v (.int .i64 0)]
theorem nllist_c : Contract Try.prog 20 [.v (.pointer none)] h (.sl 0 [] (some true) .exact) h [] := by
  refine contract_of k20 mixed (by simp [c20]) fun hh hargs => ?_
  simp [c20, hh]
theorem zclist_c {i : Nat} (hi : h[i]? = some zeroC18) : Contract Try.prog 34 [.box i 0] h (.sl 0 [] (some true) .exact) h [] := by
  unfold zeroC18 at hi
  refine contract_of k34 mixed (by simp [c34]) fun hh hargs => ?_
  simp [c34, hi]
  refine xcall_self (by simp) nllist_c ?_
  simp [hh]
theorem zcmost_c {i : Nat} (hi : h[i]? = some zeroC18) : Contract Try.prog 39 [.box i 0] h (.v (.int .i64 0)) h [] := by
  unfold zeroC18 at hi
  refine contract_of k39 mixed (by simp [c39]) fun hh hargs => ?_
  simp [c39, hi, hh]
theorem zcspec_c {i : Nat} (hi : h[i]? = some zeroC18) (l : List En) : Contract Try.prog 37 [.box i 0, .sl 8 (enc enC l) none .no] h (.sl 0 [] (some true) .exact) h [] := by
  refine contract_of k37 mixed (by simp [c37]) fun hh hargs => ?_
  simp [c37]
  refine xcall_self (by simp) (zcmost_c hi) ?_
  simp [hh]
theorem zcsettle_c {i : Nat} (hi : h[i]? = some zeroC18) (op : Oc) : Contract Try.prog 48 [.box i 0, .agg (ocC op)] h (.tup []) h [] := by
  have hil := (List.getElem?_eq_some_iff.1 hi).1
  unfold zeroC18 at hi
  have e2 : ∀ xs : List (List AV), (h ++ xs)[i]? = some [.v (.pointer none), .v (.int .i64 0)] := fun xs => by rw [List.getElem?_append_left hil]; exact hi
  refine contract_of k48 mixed (by simp [c48]) fun hh hargs => ?_
  have hni : ¬ i = h.length := by omega
  by_cases k1 : op.kind = 1
  · simp [c48, ocC, k1, e2]
    refine xcall_self (by simp) (nladd_c _) ?_
    simp [hh]
    done
  by_cases k2 : op.kind = 2
  · simp [c48, ocC, k2, e2]
    refine xcall_self (by simp) (nlremove_c _) ?_
    simp [hh]
    done
  by_cases k3 : op.kind = 3
  · simp [c48, ocC, k3, e2]
    refine xcall_self (by simp) (nltouch_c _) ?_
    simp [hh]
    done
  · simp [c48, ocC, k1, k2, k3, hh]
    done
theorem zcsettles_c {i : Nat} (hi : h[i]? = some zeroC18) (ops : List Oc) (hops : ops.length ≤ 1000000) : Contract Try.prog 32 [.box i 0, .sl 2 (enc ocC ops) none .no] h (.sl 0 [] (some true) .exact) h [] := by
  have hil := (List.getElem?_eq_some_iff.1 hi).1
  have hi2 := hi
  unfold zeroC18 at hi2
  refine contract_of k32 mixed (by simp [c32]) fun hh hargs => ?_
  simp [c32]
  refine xcall_self (by simp) (zclist_c hi) ?_
  simp
  refine xloop_ok (D := Nat) (fun j => ⟨[(0, .box i 0), (5, .sl 0 [] (some true) .exact), (12, .sl 2 (enc ocC ops) none .no), (13, .v (.int .i64 (ops.length : Int))), (14, .v (.int .i64 (j : Int)))], [], h, []⟩) (fun j => j ≤ ops.length) (fun j => ops.length - j) 0 (by omega) ?_ ?_
  · simp [Leq, hh, leqH_take, hil]
    done
  · intro j hj
    by_cases hlt : j < ops.length
    · have hw : IntKind.i64.wrap ((j : Int) + 1) = (j : Int) + 1 := wrap64 (by omega) (by omega)
      have hs := zcsettle_c (h := h ++ [ocC ops[j]]) (i := i) (by rw [List.getElem?_append_left hil]; exact hi) ops[j]
      simp only [ocC] at hs
      simp [hlt, ocC]
      refine xcall_self (by simp) hs ?_
      simp [hw]
      refine ⟨j + 1, by omega, by omega, ?_⟩
      simp [Leq, hh, leqH_take, hil]
      done
    · have : j = ops.length := by omega
      subst this
      simp [hi2]
      refine xcall_self (by simp) (delf_x _ _ _ _ _) ?_
      simp [hh]
      done
theorem cnobody_c (ops : List Oc) (l : List En) : Contract Try.prog 9 [.sl 2 (enc ocC ops) none .no, .sl 8 (enc enC l) none .no] [] (.v (.bool true)) [] [] := by
  refine contract_of k9 mixed (by simp [c9]) fun hh hargs => ?_
  have hent := entries_n l 20 (by omega) []
  have hcast : ((20 : Nat) : Int) = 20 := rfl
  rw [hcast] at hent
  by_cases hops : 60 < (ops.length : Int)
  · simp [c9, hops]
    refine xcall_self (by simp) (cawake_c _) ?_
    simp
    done
  simp [c9, hops]
  refine xcall_self (by simp) hent ?_
  cases hE : fewEL l 20 with
  | false =>
    simp
    refine xcall_self (by simp) (cawake_c _) ?_
    simp
    done
  | true =>
    have z0 : ([zeroC18] : List (List AV))[0]? = some zeroC18 := rfl
    have hz : zeroC18 = [.v (.pointer none), .v (.int .i64 0)] := rfl
    simp
    refine xcall_self (by simp) (ncsettle_c _) ?_
    simp
    refine xcall_self (by simp) (zcsettles_c z0 _ (by omega)) ?_
    simp
    refine xcall_self (by simp) nclist_c ?_
    simp
    refine xcall_self (by simp) (ncspec_c _) ?_
    simp
    refine xcall_self (by simp) (zcspec_c z0 _) ?_
    simp
    refine xcall_self (by simp) ncmost_c ?_
    simp
    refine xcall_self (by simp) (cawake_c _) ?_
    simp
    done
end
end Go.Proofs.Ytabfaambilbpeaa.Ax
/- Layer 18's statement: who is gone was there, and is not; nothing is there twice, nor more than may be. -/
namespace Go.Proofs.Ytabfaambilbpeaa.Ax
open Go.RowKit Go By
set_option linter.unusedSimpArgs false
set_option linter.unusedVariables false
set_option maxRecDepth 10000

theorem goneL_mem {L L' : List Int} {x : Int} : x ∈ goneL L L' ↔ x ∈ L ∧ x ∉ L' := by unfold goneL; rw [List.mem_filter]; simp
structure CG where
  H : List (List AV)
  o : Option Nat
  c : List Int
  L : List Int
  j : Nat
structure CG.Ok (n most : Nat) (d : CG) : Prop where
  le : d.j ≤ n
  at_ : CaAt 0 d.H 1 0 most d.o d.c d.L
  ok : LrOk most d.L
set_option maxHeartbeats 4000000 in
theorem cgone_c (n : Nat) (hn : n < 256) (l : List (List Oc)) (hlm : l.length ≤ maxLen) : Contract Try.prog 8 [.v (.int .u8 (n : Int)), .sl 1 (enc ocL l) none .no] [] (.v (.bool true)) [] [] := by
  obtain ⟨m, hm⟩ : ∃ m, m = 1 + n % 9 := ⟨_, rfl⟩
  have hm1 : 1 ≤ m := by omega
  have hm2 : m ≤ 4096 := by omega
  refine contract_of k8 mixed (by simp [c8]) fun hh hargs => ?_
  obtain ⟨k, hk⟩ : ∃ k, k = n % 9 := ⟨_, rfl⟩
  have ht0 : (n : Int).tmod 9 = (k : Int) := by rw [Int.tmod_eq_emod_of_nonneg (by omega)]; omega
  have hw2 : IntKind.i64.wrap (k : Int) = (k : Int) := wrap64 (by omega) (by omega)
  have hw3 : IntKind.i64.wrap (1 + (k : Int)) = (m : Int) := by rw [wrap64 (by omega) (by omega)]; omega
  simp [c8]
  refine xcall_self (by simp) (few_c l hlm _) ?_
  cases hF : fewL l with
  | false =>
    simp
    refine xcall_self (by simp) (cawake_c _) ?_
    simp
    done
  | true =>
  obtain ⟨hl40, hl10⟩ := fewL_iff.1 hF
  simp [ht0, hw2, hw3]
  refine xcall_self (by simp) (cnew_c hm1 hm2 _) ?_
  have t0 := newCa_at (lo := 0) (h := []) (by simp) m (Nat.zero_le _)
  have hH0 : newCa [] m = [[.sl 0 [] (some true) .exact, .v (.int .i64 (m : Int))], [.box 0 0, .v (.int .i64 (m : Int))]] := rfl
  simp
  refine xloop_ok (D := CG) (fun d => ⟨[(5, .v (.int .i64 (m : Int))), (6, .box 1 0), (33, .sl 1 (enc ocL l) none .no), (34, .v (.int .i64 (l.length : Int))), (35, .v (.int .i64 (d.j : Int)))], [], d.H, []⟩) (CG.Ok l.length m) (fun d => l.length - d.j) ⟨newCa [] m, none, [], [], 0⟩ ⟨Nat.zero_le _, t0, newLr_ok hm1 hm2⟩ ?_ ?_
  · simp [Leq, hH0, leqH_take]
    done
  · rintro ⟨H, o, c, L, j⟩ ⟨hj, hat, hok⟩
    dsimp only at hj hat hok
    by_cases hlt : j < l.length
    · have hc10 := hl10 l[j] (List.getElem_mem hlt)
      have hw : IntKind.i64.wrap ((j : Int) + 1) = (j : Int) + 1 := wrap64 (by omega) (by omega)
      have hi := hat.i_lt
      have hlen0 := hok.len
      have ok' := hok.ops (ops := l[j])
      have hlen' := ok'.len
      simp [hlt, ocL]
      by_cases hL : L = []
      · subst hL
        obtain ⟨h1, o1, c1, k1, t1, s1, l1, q1⟩ := csettles_e hat hok l[j] (by omega)
        generalize opsL m [] l[j] = L' at *
        refine xcall_self (by simp) (clist_x hat) ?_
        simp
        refine xcall_self (by simp) k1 ?_
        simp
        have hi1 := t1.i_lt
        have hlt1 := t1.lru.lt
        refine xloop_ok (D := Unit) (fun _ => ⟨[(5, .v (.int .i64 (m : Int))), (6, .box 1 0), (33, .sl 1 (enc ocL l) none .no), (34, .v (.int .i64 (l.length : Int))), (35, .v (.int .i64 (j : Int))), (44, .v (.int .i64 0)), (45, .v (.int .i64 0))], [], h1, []⟩) (fun _ => True) (fun _ => 0) () trivial ?_ ?_
        · simp [Leq, hlt1, leqH_take, hi1]
          done
        · intro _ _
          simp
          by_cases hL2 : L' = []
          · subst hL2
            refine xcall_self (by simp) (clist_x t1) ?_
            simp
            refine xcall_self (by simp) (sort_e _ _ _) ?_
            simp
            refine xcall_self (by simp) (compact_e _ _ _) ?_
            simp
            refine xcall_self (by simp) (clist_x t1) ?_
            simp [hw]
            refine ⟨⟨h1, o1, c1, [], j + 1⟩, ⟨by show j + 1 ≤ l.length; omega, t1, ok'⟩, by show l.length - (j + 1) < l.length - j; omega, ?_⟩
            simp [Leq, hlt1, leqH_take, hi1]
            done
          · obtain ⟨cc, ks, kc⟩ := own_sorted (h := h1) ok'.nd (by omega) hL2
            have t2 := t1.app2 [intsA cc] (by simp)
            have n9 : ¬ (m : Int) < (L'.length : Int) := by omega
            refine xcall_self (by simp) (clist_v t1 (by omega) hL2) ?_
            simp
            refine xcall_self (by simp) ks ?_
            simp [n9]
            refine xcall_self (by simp) kc ?_
            simp
            refine xcall_self (by simp) (clist_c t2 (by omega)) ?_
            simp [hw]
            refine ⟨⟨h1 ++ [intsA cc], o1, c1, L', j + 1⟩, ⟨by show j + 1 ≤ l.length; omega, t2, ok'⟩, by show l.length - (j + 1) < l.length - j; omega, ?_⟩
            have hlt2 := t2.lru.lt
            have hi2 : 1 < h1.length + 1 := by omega
            simp at hlt2
            simp [Leq, hlt2, leqH_take, hi2]
            done
      · obtain ⟨h1, o1, c1, cg, k1, t1, s1, l1, q1, r1, r2⟩ := csettles_v (hat.app2 [intsA L] (by simp)) hok hL l[j] (by omega)
        have hol : ∀ b, o = some b → b < H.length := fun b e => (List.getElem?_eq_some_iff.1 (hat.lru.row b e).1).1
        have hwas : h1[H.length]? = some (intsA L) := by
          rw [s1 H.length (by simp) (by omega) (fun e => by have := hol _ e; omega)]; simp
        have hl2 : (H ++ [intsA L]).length = H.length + 1 := by simp
        rw [hl2] at k1 r1 l1
        generalize opsL m L l[j] = L' at *
        obtain ⟨Gn, hG⟩ : ∃ Gn, Gn = goneL L L' := ⟨_, rfl⟩
        have hGm : ∀ x ∈ Gn, x ∈ L ∧ x ∉ L' := fun x hx => goneL_mem.1 (by rw [← hG]; exact hx)
        have hGl : Gn.length ≤ L.length := by rw [hG]; exact List.length_filter_le _ _
        rw [← hG] at k1 r2
        refine xcall_self (by simp) (clist_v hat (by omega) hL) ?_
        simp
        refine xcall_self (by simp) k1 ?_
        simp
        have hi1 := t1.i_lt
        have hlt1 := t1.lru.lt
        have hb1 : H.length < h1.length := by omega
        have hb2 : H.length + 1 < h1.length := by omega
        refine xloop_ok (D := Nat) (fun q => ⟨[(5, .v (.int .i64 (m : Int))), (6, .box 1 0), (10, .bsl H.length 0 1 L.length), (33, .sl 1 (enc ocL l) none .no), (34, .v (.int .i64 (l.length : Int))), (35, .v (.int .i64 (j : Int))), (43, .bsl (H.length + 1) 0 1 Gn.length), (44, .v (.int .i64 (Gn.length : Int))), (45, .v (.int .i64 (q : Int)))], [], h1, []⟩) (fun q => q ≤ Gn.length) (fun q => Gn.length - q) 0 (by omega) ?_ ?_
        · simp [Leq, hlt1, leqH_take, hi1, hb1, hb2]
          done
        · intro q hq
          by_cases hqt : q < Gn.length
          · have g := row_at r2 hqt
            obtain ⟨g1, g2⟩ := hGm _ (List.getElem_mem hqt)
            have hwq : IntKind.i64.wrap ((q : Int) + 1) = (q : Int) + 1 := wrap64 (by omega) (by omega)
            have hh1 := has_b hwas (Nat.le_refl L.length) Gn[q]
            rw [List.take_length] at hh1
            have e1 : L.contains Gn[q] = true := by simpa using g1
            have e2 : L'.contains Gn[q] = false := by simpa using g2
            rw [e1] at hh1
            simp [hqt, r1, g]
            refine xcall_self (by simp) hh1 ?_
            simp
            by_cases hL' : L' = []
            · subst hL'
              refine xcall_self (by simp) (clist_x t1) ?_
              simp
              refine xcall_self (by simp) (has_e _ _ _ _) ?_
              simp [hwq]
              refine ⟨q + 1, by omega, by omega, ?_⟩
              simp [Leq, hlt1, leqH_take, hi1, hb1, hb2]
              done
            · have hh2 := has_b (h := h1 ++ [intsA L']) (b := h1.length) (c := L') (n := L'.length) (by simp) (Nat.le_refl _) Gn[q]
              rw [List.take_length, e2] at hh2
              refine xcall_self (by simp) (clist_v t1 (by omega) hL') ?_
              simp
              refine xcall_self (by simp) hh2 ?_
              simp [hwq]
              refine ⟨q + 1, by omega, by omega, ?_⟩
              simp [Leq, hlt1, leqH_take, hi1, hb1, hb2]
              done
          · have : q = Gn.length := by omega
            subst this
            simp
            by_cases hL2 : L' = []
            · subst hL2
              refine xcall_self (by simp) (clist_x t1) ?_
              simp
              refine xcall_self (by simp) (sort_e _ _ _) ?_
              simp
              refine xcall_self (by simp) (compact_e _ _ _) ?_
              simp
              refine xcall_self (by simp) (clist_x t1) ?_
              simp [hw]
              refine ⟨⟨h1, o1, c1, [], j + 1⟩, ⟨by show j + 1 ≤ l.length; omega, t1, ok'⟩, by show l.length - (j + 1) < l.length - j; omega, ?_⟩
              simp [Leq, hlt1, leqH_take, hi1]
              done
            · obtain ⟨cc, ks, kc⟩ := own_sorted (h := h1) ok'.nd (by omega) hL2
              have t2 := t1.app2 [intsA cc] (by simp)
              have n9 : ¬ (m : Int) < (L'.length : Int) := by omega
              refine xcall_self (by simp) (clist_v t1 (by omega) hL2) ?_
              simp
              refine xcall_self (by simp) ks ?_
              simp [n9]
              refine xcall_self (by simp) kc ?_
              simp
              refine xcall_self (by simp) (clist_c t2 (by omega)) ?_
              simp [hw]
              refine ⟨⟨h1 ++ [intsA cc], o1, c1, L', j + 1⟩, ⟨by show j + 1 ≤ l.length; omega, t2, ok'⟩, by show l.length - (j + 1) < l.length - j; omega, ?_⟩
              have hlt2 := t2.lru.lt
              have hi2 : 1 < h1.length + 1 := by omega
              simp at hlt2
              simp [Leq, hlt2, leqH_take, hi2]
              done
    · have : j = l.length := by omega
      subst this
      simp
      refine xcall_self (by simp) (cawake_c _) ?_
      simp
      done
theorem cgone_l (a : Int) (l : List (List Oc)) (h0 : (Lit.int .u8 a).wf = true) (h1 : l.length ≤ maxLen ∧ ∀ x ∈ l, x.length ≤ maxLen ∧ ∀ y ∈ x, OkOc y) : Contract Try.prog 8 [.v (.int .u8 a), .sl 1 (enc ocL l) none .no] [] (.v (.bool true)) [] [] := by
  obtain ⟨n, hn, rfl⟩ := u8_of h0
  exact cgone_c n hn l h1.1
end Go.Proofs.Ytabfaambilbpeaa.Ax
namespace Go.Proofs.Ytabfaambilbpeaa.cacheGone
open Go.ChangeShapes Go.WideShapes Go.ChangeAt Go.RowKit
open Go.ChangeMaps (open_string shut_string)
set_option linter.unusedVariables false

theorem own : ownKnob Try.prog.godebug = none := by kernel_rfl
theorem laidOut : laidOutB Try.prog = true := by kernel_rfl

set_option maxRecDepth 100000 in
theorem lifted (os : Os) (started : os.Started) (H : Type) (enc : TypeId × Value → H) :
    ReturnsInHanded {} Try.checked os 8 .any (Rows.cacheGoneSpec.pre6 enc Try.prog Try.f8 Rows.cacheGoneRow.domain false) (Rows.cacheGoneSpec.post enc Try.prog Try.f8 false true false false) := by
  refine returnsInHanded_of_change (C := Try.checked) own started (by kernel_rfl) Try.func8
    (ChangeSpec.witness6 (enc := enc) (C := Try.checked) false ⟨#[], #[.int .u8 0, .slice none 0 0], []⟩ 8 (by kernel_rfl) (by kernel_rfl) (by kernel_rfl) (by kernel_rfl)) ?_
  intro W base args ds gs before hval0 hW hcnd _
  have hval : ∀ (j : Nat) t v, Try.f8.params[j]? = some t → args[j]? = some v → Value.okWide Try.prog W .any base t v := hval0
  have hW' := hW
  obtain ⟨p, q, hA0, hV, rfl, hfz, hnd⟩ := hW
  have hA : DataW.TrodAll enc Try.prog W 0 (fun _ => true) true Try.f8.params.toList args.toList ds p := hA0
  rw [Try.params8] at hA hval
  obtain ⟨v0, vs0, d0, ds0, p0, q0, hargs, rfl, rfl, h0, r0⟩ := trodAll_cons hA
  obtain ⟨v1, vs1, d1, ds1, p1, q1, rfl, rfl, rfl, h1, r1⟩ := trodAll_cons r0
  obtain ⟨rfl, rfl, rfl⟩ := trodAll_nil r1
  obtain rfl : args = #[v0, v1] := by cases args; simp_all
  obtain ⟨rfl, rfl⟩ := trodVars_none hV
  have k0 := h0
  have lt0 : ∀ x ∈ p0, x.block < W.heap.size := by obtain ⟨m, hm⟩ := k0; exact DataW.trod_lt m _ _ _ hm
  obtain ⟨a0, ok0, s0⟩ := Ax.arg_int Try.underlying5 (hval 0 5 v0 rfl rfl) h0
  have k1 := h1
  have lt1 : ∀ x ∈ p1, x.block < W.heap.size := by obtain ⟨m, hm⟩ := k1; exact DataW.trod_lt m _ _ _ hm
  obtain ⟨a1, ok1, s1⟩ := Ax.arg_slice Try.underlying49 Ax.sh_ocCLL (hval 1 49 v1 rfl rfl) h1
  clear hA0 hval0
  refine (Ax.law_walk (w := W) (Ax.dom_any W) (Ax.cgone_l a0 a1 ok0 ok1) (by simp) (.cons s0 (.cons s1 .nil))).mono fun e W' ⟨he, bel⟩ => ?_
  subst he
  exact ⟨_, rfl, _, _, _, [], _, [], hW', trodAll_mk1 (shut_bool Try.underlying4 _), (trodAll_cons_mk (Below.trod laidOut (by kernel_rfl) (of_decide_eq_true (by kernel_rfl)) k0 bel lt0) (trodAll_cons_mk (Below.trod laidOut (by kernel_rfl) (of_decide_eq_true (by kernel_rfl)) k1 bel lt1) trodAll_mk0)), rfl, bel.frame _, fun h => by cases h⟩

theorem over : Rows.cacheGoneRow.holds Try.pinned (OpenSpec.ofChange Rows.cacheGoneSpec) :=
  OpenClaim.holds_of_wide 8 Try.f8 rfl rfl rfl rfl rfl rfl rfl ⟨rfl, rfl, rfl, rfl, rfl⟩ rfl rfl rfl rfl rfl (by kernel_rfl) Try.func8 (by kernel_rfl)
    (of_decide_eq_true (by kernel_rfl)) (by unfold Func.isWrapper; first | (rw [if_pos (by decide +kernel)]; kernel_rfl) | (rw [if_neg (by decide +kernel)]; exact ⟨rfl, rfl⟩))
    (fun os started H enc _ => lifted os started H enc)

theorem proved : Rows.CacheGoneSaid := over
#print axioms proved
end Go.Proofs.Ytabfaambilbpeaa.cacheGone
