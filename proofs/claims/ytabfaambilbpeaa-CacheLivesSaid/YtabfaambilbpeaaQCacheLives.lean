/- A cache with room for any number settles any ops in any order, tells who is gone, lists what it has, folds any list and tells what it will have behind any entries, all just as the document's cache; and how many it may have. -/
import Derived.Test.YtabfaambilbpeaaQAxLw
import Derived.Test.YtabfaambilbpeaaQAxVg
import Derived.Test.YtabfaambilbpeaaRows
import Derived.Test.YtabfaambilbpeaaQElems
import Derived.Test.YtabfaambilbpeaaQAxX
import Derived.WalkKit
import Derived.ProofKit
import Derived.OpenShut
import Derived.ShutString
import Derived.ChangeOld
import Derived.Below
/- A few numbers, by when they were used last, over values without memory: the document's list. -/
namespace Go.Proofs.Ytabfaambilbpeaa.Ax
open Go.RowKit Go By
set_option linter.unusedSimpArgs false
set_option linter.unusedVariables false
set_option maxRecDepth 10000

/-- The numbers in a variable's first cell: nil, or a row whose room is that cell's. -/
def liK (i : Nat) : List Int → AV
  | [] => .sl 0 [] (some true) .exact
  | x :: r => .sl 1 (enc intC (x :: r)) none (.own (.cell i 0))
theorem liK_some {i : Nat} {L : List Int} (h : L ≠ []) : liK i L = .sl 1 (enc intC L) none (.own (.cell i 0)) := by cases L with | nil => exact absurd rfl h | cons _ _ => rfl
@[simp] theorem liK_lt (i n : Nat) (l : List Int) : (liK i l).lt n := by cases l <;> simp [liK, intC]
structure RlAt (h : List (List AV)) (i most : Nat) (L : List Int) : Prop where
  top : h[i]? = some [liK i L, .v (.int .i64 (most : Int))]
def rlH (h : List (List AV)) (i most : Nat) (L : List Int) : List (List AV) := h.set i [liK i L, .v (.int .i64 (most : Int))]
section
variable {h : List (List AV)} {i most : Nat} {L : List Int}
theorem RlAt.i_lt (ht : RlAt h i most L) : i < h.length := (List.getElem?_eq_some_iff.1 ht.top).1
theorem RlAt.put (hi : i < h.length) (most : Nat) (L' : List Int) : RlAt (rlH h i most L') i most L' := ⟨by unfold rlH; rw [List.getElem?_set_self hi]⟩
theorem has_take {x : Int} {j : Nat} (hj : j < L.length) (h1 : x ∉ L.take j) (h2 : L[j] ≠ x) : x ∉ L.take (j + 1) := by
  rw [take_next hj]
  intro h
  rcases List.mem_append.1 h with h | h
  · exact h1 h
  · simp at h; exact h2 h.symm
theorem rhas_c (ht : RlAt h i most L) (hl : L.length ≤ 4096) (x : Int) : Contract Try.prog 23 [.box i 0, .v (.int .i64 x)] h (.v (.bool (L.contains x))) h [] := by
  have e1 := ht.top
  have hi := ht.i_lt
  refine contract_of k23 mixed (by simp [c23]) fun hh hargs => ?_
  simp [c23]
  refine xloop_ok (D := Nat) (fun j => ⟨[(0, .box i 0), (1, .v (.int .i64 x)), (5, .v (.int .i64 (j : Int)))], [], h, []⟩) (fun j => j ≤ L.length ∧ x ∉ L.take j) (fun j => L.length - j) 0 ⟨by omega, by simp⟩ ?_ ?_
  · simp [Leq, hh, leqH_take, hi]
    done
  · rintro j ⟨hj, hno⟩
    by_cases hlt : j < L.length
    · have hne : L ≠ [] := fun e => by rw [e] at hlt; cases hlt
      rw [liK_some hne] at e1
      have hw : IntKind.i64.wrap ((j : Int) + 1) = (j : Int) + 1 := wrap64 (by omega) (by omega)
      by_cases e : L[j] = x
      · have hc : L.contains x = true := by simp; exact e ▸ List.getElem_mem hlt
        have hm : x ∈ L := e ▸ List.getElem_mem hlt
        simp [e1, hlt, intC, e, hh, hm]
        done
      · simp [e1, hlt, intC, e, hw]
        refine ⟨j + 1, ⟨by omega, has_take hlt hno e⟩, by omega, ?_⟩
        simp [Leq, hh, leqH_take, hi]
    · have : j = L.length := by omega
      subst this
      rw [List.take_length] at hno
      have hc : L.contains x = false := by simpa using hno
      by_cases hL : L = []
      · subst hL
        simp [e1, liK, hh]
        done
      · rw [liK_some hL] at e1
        simp [e1, hh, hno]
        done
theorem remI_snoc (l : List Int) (x y : Int) : remI (l ++ [y]) x = if y = x then remI l x else remI l x ++ [y] := by
  unfold remI
  rw [List.filter_append]
  by_cases e : y = x
  · simp [e]
  · simp [e]
/-- What is built. -/
def outS (h : List (List AV)) (i : Nat) (x : Int) (j : Nat) : List Int → St
  | [] => ⟨[(0, .box i 0), (1, .v (.int .i64 x)), (5, .sl 0 [] (some true) .exact), (6, .v (.int .i64 (j : Int)))], [], h, []⟩
  | y :: r => ⟨[(0, .box i 0), (1, .v (.int .i64 x)), (6, .v (.int .i64 (j : Int)))], [(5, .sl 1 (enc intC (y :: r)) none (.own (.slot 5)))], h, []⟩
theorem rremove_c (ht : RlAt h i most L) (hl : L.length ≤ 4096) (x : Int) : Contract Try.prog 17 [.box i 0, .v (.int .i64 x)] h (.v (.bool (L.contains x))) (rlH h i most (remI L x)) [i] := by
  have e1 := ht.top
  have hi := ht.i_lt
  refine contract_of k17 mixed (by simp [c17]) fun hh hargs => ?_
  simp [c17]
  refine xloop_ok (D := Nat) (fun j => outS h i x j (remI (L.take j) x)) (fun j => j ≤ L.length) (fun j => L.length - j) 0 (by omega) ?_ ?_
  · simp [Leq, hh, leqH_take, hi, outS, remI]
    done
  · intro j hj
    by_cases hlt : j < L.length
    · have hne : L ≠ [] := fun e => by rw [e] at hlt; cases hlt
      rw [liK_some hne] at e1
      have hw : IntKind.i64.wrap ((j : Int) + 1) = (j : Int) + 1 := wrap64 (by omega) (by omega)
      have hn := take_next hlt
      have hrl : (remI (L.take j) x).length ≤ 4096 := Nat.le_trans (List.length_filter_le _ _) (by simp; omega)
      by_cases e : L[j] = x
      · have e2 : remI (L.take (j + 1)) x = remI (L.take j) x := by rw [hn, remI_snoc]; simp [e]
        cases hR : remI (L.take j) x with
        | nil =>
          simp [outS, e1, hlt, intC, e, hw]
          refine ⟨j + 1, by omega, by omega, ?_⟩
          rw [e2, hR]
          simp [Leq, hh, leqH_take, hi, outS, intC]
          done
        | cons y r =>
          simp [outS, e1, hlt, intC, e, hw]
          refine ⟨j + 1, by omega, by omega, ?_⟩
          rw [e2, hR]
          simp [Leq, hh, leqH_take, hi, outS, intC]
          done
      · have e2 : remI (L.take (j + 1)) x = remI (L.take j) x ++ [L[j]] := by rw [hn, remI_snoc]; simp [e]
        cases hR : remI (L.take j) x with
        | nil =>
          rw [hR] at e2
          simp [outS, e1, hlt, intC, e, hw]
          refine xappendA_own ?_
          simp [hw]
          refine ⟨j + 1, by omega, by omega, ?_⟩
          rw [e2]
          simp [Leq, hh, leqH_take, hi, outS, intC]
          done
        | cons y r =>
          rw [hR] at e2 hrl
          simp at hrl
          simp [outS, e1, hlt, intC, e, hw]
          refine ⟨by omega, by omega, j + 1, by omega, by omega, ?_⟩
          rw [e2]
          simp [Leq, hh, leqH_take, hi, outS, intC]
          done
    · have : j = L.length := by omega
      subst this
      rw [List.take_length]
      have hcl : ((remI L x).length < L.length) ↔ x ∈ L := by
        unfold remI
        constructor
        · intro h
          by_cases hx : x ∈ L
          · exact hx
          · have := remI_not hx; unfold remI at this; rw [this] at h; omega
        · intro hx
          have h1 := (List.length_filter_lt_length_iff_exists (p := fun y => y != x)).2 ⟨x, hx, by simp⟩
          exact h1
      by_cases hL : L = []
      · subst hL
        simp [e1, liK, remI, outS]
        simp [hh, rlH, hi, leqH_take, liK]
        done
      · have e0 := e1
        rw [liK_some hL] at e1
        cases hR : remI L x with
        | nil =>
          rw [hR] at hcl
          simp [outS, e1]
          simp [hh, rlH, liK, hi, hcl, leqH_take, intC]
          rw [← hcl]; simp
        | cons y r =>
          rw [hR] at hcl
          simp [outS, e1]
          simp [hh, rlH, liK, hi, hcl, leqH_take, intC]
          rw [← hcl]; simp; omega
theorem radd_c (ht : RlAt h i most L) (hm : 1 ≤ most ∧ most ≤ 4096) (hl : L.length ≤ most) (x : Int) : Contract Try.prog 13 [.box i 0, .v (.int .i64 x)] h (.v (.int .i64 (addE most L x))) (rlH h i most (addL most L x)) [i] := by
  have e1 := ht.top
  have hi := ht.i_lt
  have hset : rlH h i most L = h := by
    unfold rlH
    rw [← (List.getElem?_eq_some_iff.1 e1).2]; exact List.set_getElem_self hi
  refine contract_of k13 mixed (by simp [c13]) fun hh hargs => ?_
  simp [c13]
  refine xcall_self (by simp) (rhas_c ht (by omega) x) ?_
  unfold addE addL
  by_cases hx : x ∈ L
  · have hc : L.contains x = true := by simpa using hx
    rw [if_pos hc, if_pos hc, hc, hset]
    simp [hh, leqH_take]
    done
  · have hc : L.contains x = false := by simpa using hx
    have hc' : ¬ L.contains x = true := by rw [hc]; simp
    rw [if_neg hc', if_neg hc', hc]
    by_cases hf : most ≤ L.length
    · rw [if_pos hf, if_pos hf, hset]
      have hL : L ≠ [] := fun e => by subst e; simp at hf; omega
      have hf2 : (most : Int) ≤ (L.length : Int) := by omega
      rw [liK_some hL] at e1
      simp [e1, hf, hf2]
      simp [hh, leqH_take]
      done
    · rw [if_neg hf, if_neg hf]
      have hf2 : ¬ (most : Int) ≤ (L.length : Int) := by omega
      by_cases hL : L = []
      · subst hL
        have hf3 : ¬ (most : Int) ≤ 0 := by omega
        have hf4 : ¬ most = 0 := by omega
        simp [e1, liK, hf3, hf4]
        refine xappendA_own ?_
        simp [e1, liK]
        simp [hh, rlH, liK, hi, leqH_take, intC]
        done
      · rw [liK_some hL] at e1
        have hne : L ++ [x] ≠ [] := by simp
        simp [e1, hf, hf2]
        refine ⟨by omega, by omega, ?_⟩
        simp [e1, unownAt]
        rw [rlH, liK_some hne]
        simp [hh, hi, leqH_take, intC]
        done
theorem rtouch_c (ht : RlAt h i most L) (hn : L.Nodup) (hl : L.length ≤ 4096) (x : Int) : Contract Try.prog 15 [.box i 0, .v (.int .i64 x)] h (.v (.bool (L.contains x))) (rlH h i most (touchL L x)) [i] := by
  have e1 := ht.top
  have hi := ht.i_lt
  have hset : rlH h i most L = h := by
    unfold rlH
    rw [← (List.getElem?_eq_some_iff.1 e1).2]; exact List.set_getElem_self hi
  have hr := rremove_c ht hl x
  unfold touchL
  by_cases hx : x ∈ L
  · have hc : L.contains x = true := by simpa using hx
    rw [if_pos hc]
    rw [hc] at hr ⊢
    have hA := RlAt.put hi most (remI L x)
    obtain ⟨H, hH⟩ : ∃ H, H = rlH h i most (remI L x) := ⟨_, rfl⟩
    have hHl : H.length = h.length := by rw [hH]; simp [rlH]
    have hE : rlH h i most (remI L x ++ [x]) = rlH H i most (remI L x ++ [x]) := by rw [hH]; unfold rlH; rw [List.set_set]
    rw [← hH] at hr hA
    rw [hE]
    have e2 := hA.top
    have hi2 := hA.i_lt
    have hrl := remI_len hn hx
    refine contract_of k15 mixed (by simp [c15]) fun hh hargs => ?_
    have hHl2 : ltLL H.length H := by
      rw [hH]; unfold rlH; rw [List.length_set]
      exact ltLL_set hh (by simp)
    have hle : h.length ≤ H.length := by omega
    simp [c15]
    refine xcall_self (by simp) hr ?_
    by_cases hL : remI L x = []
    · rw [hL] at e2 ⊢
      simp [e2, liK]
      refine xappendA_own ?_
      simp [e2, liK]
      simp [hHl2, hle, rlH, liK, hi2, leqH_take, intC]
      done
    · rw [liK_some hL] at e2
      have hne : remI L x ++ [x] ≠ [] := by simp
      simp [e2]
      refine ⟨by omega, by omega, ?_⟩
      simp [e2, unownAt]
      rw [rlH, liK_some hne]
      simp [hHl2, hle, hi2, leqH_take, intC]
      done
  · have hc : L.contains x = false := by simpa using hx
    have hc' : ¬ L.contains x = true := by rw [hc]; simp
    rw [if_neg hc']
    rw [hc, remI_not hx] at hr
    rw [hc]
    refine contract_of k15 mixed (by simp [c15]) fun hh hargs => ?_
    simp [c15]
    refine xcall_self (by simp) hr ?_
    rw [hset]
    simp [hh, leqH_take]
    done
theorem rnew_c {most : Nat} (h1 : 1 ≤ most) (h2 : most ≤ 4096) (h : List (List AV)) : Contract Try.prog 11 [.v (.int .i64 (most : Int))] h (.tup [.box h.length 0, .v (.int .i64 0)]) (newLr h most) [] := by
  refine contract_of k11 mixed (by simp [c11]) fun hh hargs => ?_
  have n1 : ¬ (most : Int) < 1 := by omega
  have n2 : ¬ (most : Int) > 4096 := by omega
  have hl := ltLL_mono (Nat.le_add_right h.length 1) hh
  simp [c11, n1, n2, newLr, hl]
theorem rnew_no {most : Int} (hm : most < 1 ∨ most > 4096) (h : List (List AV)) : Contract Try.prog 11 [.v (.int .i64 most)] h (.tup [.v (.pointer none), .v (.int .i64 1)]) h [] := by
  refine contract_of k11 mixed (by simp [c11]) fun hh hargs => ?_
  by_cases n1 : most < 1
  · simp [c11, n1, hh]
  · have n2 : most > 4096 := by omega
    simp [c11, n1, n2, hh]
end
end Go.Proofs.Ytabfaambilbpeaa.Ax
/- Which statements a server has, over values without memory: the document's answer. -/
namespace Go.Proofs.Ytabfaambilbpeaa.Ax
open Go.RowKit Go By
set_option linter.unusedSimpArgs false
set_option linter.unusedVariables false
set_option maxRecDepth 10000

section
variable {h : List (List AV)} {L : List Int}
theorem dhas_c (hl : L.length ≤ 1000000) (x : Int) : Contract Try.prog 51 [.sl 1 (enc intC L) none .no, .v (.int .i64 x)] h (.v (.bool (L.contains x))) h [] := by
  refine contract_of k51 mixed (by simp [c51]) fun hh hargs => ?_
  simp [c51]
  refine xloop_ok (D := Nat) (fun j => ⟨[(0, .sl 1 (enc intC L) none .no), (1, .v (.int .i64 x)), (5, .v (.int .i64 (j : Int)))], [], h, []⟩) (fun j => j ≤ L.length ∧ x ∉ L.take j) (fun j => L.length - j) 0 ⟨by omega, by simp⟩ ?_ ?_
  · simp [Leq, hh, leqH_take]
    done
  · rintro j ⟨hj, hno⟩
    by_cases hlt : j < L.length
    · have hw : IntKind.i64.wrap ((j : Int) + 1) = (j : Int) + 1 := wrap64 (by omega) (by omega)
      by_cases e : L[j] = x
      · have hm : x ∈ L := e ▸ List.getElem_mem hlt
        simp [hlt, intC, e, hh, hm]
        done
      · simp [hlt, intC, e, hw]
        refine ⟨j + 1, ⟨by omega, has_take hlt hno e⟩, by omega, ?_⟩
        simp [Leq, hh, leqH_take]
        done
    · have : j = L.length := by omega
      subst this
      rw [List.take_length] at hno
      simp [hh, hno]
      done
def ownR : List Int → AV
  | [] => .sl 0 [] (some true) .exact
  | x :: r => .sl 1 (enc intC (x :: r)) none (.own .res)
def outW (L : List Int) (x : Int) (h : List (List AV)) (j : Nat) : List Int → St
  | [] => ⟨[(0, .sl 1 (enc intC L) none .no), (1, .v (.int .i64 x)), (5, .sl 0 [] (some true) .exact), (6, .v (.int .i64 (j : Int)))], [], h, []⟩
  | y :: r => ⟨[(0, .sl 1 (enc intC L) none .no), (1, .v (.int .i64 x)), (6, .v (.int .i64 (j : Int)))], [(5, .sl 1 (enc intC (y :: r)) none (.own (.slot 5)))], h, []⟩
theorem dwithout_c (hl : L.length ≤ 1000000) (x : Int) : Contract Try.prog 67 [.sl 1 (enc intC L) none .no, .v (.int .i64 x)] h (ownR (remI L x)) h [] := by
  refine contract_of k67 mixed (by simp [c67]) fun hh hargs => ?_
  simp [c67]
  refine xloop_ok (D := Nat) (fun j => outW L x h j (remI (L.take j) x)) (fun j => j ≤ L.length) (fun j => L.length - j) 0 (by omega) ?_ ?_
  · simp [Leq, hh, leqH_take, outW, remI]
    done
  · intro j hj
    by_cases hlt : j < L.length
    · have hw : IntKind.i64.wrap ((j : Int) + 1) = (j : Int) + 1 := wrap64 (by omega) (by omega)
      have hn := take_next hlt
      have hrl : (remI (L.take j) x).length ≤ 1000000 := Nat.le_trans (List.length_filter_le _ _) (by simp; omega)
      by_cases e : L[j] = x
      · have e2 : remI (L.take (j + 1)) x = remI (L.take j) x := by rw [hn, remI_snoc]; simp [e]
        cases hR : remI (L.take j) x with
        | nil =>
          simp [outW, hlt, intC, e, hw]
          refine ⟨j + 1, by omega, by omega, ?_⟩
          rw [e2, hR]
          simp [Leq, hh, leqH_take, outW, intC]
          done
        | cons y r =>
          simp [outW, hlt, intC, e, hw]
          refine ⟨j + 1, by omega, by omega, ?_⟩
          rw [e2, hR]
          simp [Leq, hh, leqH_take, outW, intC]
          done
      · have e2 : remI (L.take (j + 1)) x = remI (L.take j) x ++ [L[j]] := by rw [hn, remI_snoc]; simp [e]
        cases hR : remI (L.take j) x with
        | nil =>
          rw [hR] at e2
          simp [outW, hlt, intC, e, hw]
          refine xappendA_own ?_
          simp [hw]
          refine ⟨j + 1, by omega, by omega, ?_⟩
          rw [e2]
          simp [Leq, hh, leqH_take, outW, intC]
          done
        | cons y r =>
          rw [hR] at e2 hrl
          simp at hrl
          simp [outW, hlt, intC, e, hw]
          refine ⟨by omega, by omega, j + 1, by omega, by omega, ?_⟩
          rw [e2]
          simp [Leq, hh, leqH_take, outW, intC]
          done
    · have : j = L.length := by omega
      subst this
      rw [List.take_length]
      cases hR : remI L x with
      | nil =>
        simp [outW, hh, ownR]
        done
      | cons y r =>
        simp [outW, hh, ownR, intC]
        done
theorem done_c18 (hl : L.length ≤ 900000) (op : Oc) : Contract Try.prog 50 [.sl 1 (enc intC L) none .no, .agg (ocC op)] h (.sl 1 (enc intC (oneL L op)) none .no) h [] := by
  refine contract_of k50 mixed (by simp [c50]) fun hh hargs => ?_
  have hhas := dhas_c (h := h ++ [ocC op]) (L := L) (by omega) op.id
  have hwo := dwithout_c (h := h ++ [ocC op]) (L := L) (by omega) op.id
  have hrl := remI_le L op.id
  have hel : ∀ l : List Int, ltLL h.length (enc intC l) := fun l => by simp
  by_cases k1 : op.kind = 1
  · by_cases hx : op.id ∈ L
    · have hc : L.contains op.id = true := by simpa using hx
      have hp : oneL L op = L := by unfold oneL; rw [if_pos k1, if_pos hc]
      rw [hp]
      rw [hc] at hhas
      simp only [ocC] at hhas
      rw [k1] at hhas
      simp [c50, ocC, k1]
      refine xcall_self (by simp) hhas ?_
      simp
      refine xappendA_own ?_
      simp [hh]
      omega
    · have hc : L.contains op.id = false := by simpa using hx
      have hp : oneL L op = L ++ [op.id] := by unfold oneL; rw [if_pos k1, if_neg (by rw [hc]; simp)]
      rw [hp]
      rw [hc] at hhas
      simp only [ocC] at hhas
      rw [k1] at hhas
      simp [c50, ocC, k1]
      refine xcall_self (by simp) hhas ?_
      simp
      refine ⟨?_, ?_⟩
      · refine xappendA_own ?_
        simp [hh, intC]
        omega
      · refine xappendA_own ?_
        simp [hh, intC]
        omega
  by_cases k2 : op.kind = 2
  · have hp : oneL L op = remI L op.id := by unfold oneL; rw [if_neg k1, if_pos k2]
    rw [hp]
    simp only [ocC] at hwo
    rw [k2] at hwo
    simp [c50, ocC, k2]
    refine xcall_self (by simp) hwo ?_
    cases hR : remI L op.id with
    | nil =>
      simp [ownR, hh]
      done
    | cons y r =>
      simp [ownR, hh, intC]
      done
  by_cases k3 : op.kind = 3
  · by_cases hx : op.id ∈ L
    · have hc : L.contains op.id = true := by simpa using hx
      have hp : oneL L op = remI L op.id ++ [op.id] := by unfold oneL touchL; rw [if_neg k1, if_neg k2, if_pos k3, if_pos hc]
      rw [hp]
      rw [hc] at hhas
      simp only [ocC] at hhas hwo
      rw [k3] at hhas hwo
      simp [c50, ocC, k3]
      refine xcall_self (by simp) hhas ?_
      cases hR : remI L op.id with
      | nil =>
        rw [hR] at hwo
        simp only [ownR] at hwo
        simp
        refine ⟨?_, ?_⟩
        · refine xcall_self (by simp) hwo ?_
          simp
          refine xappendA_own ?_
          simp [hh, intC]
          done
        · refine xcall_self (by simp) hwo ?_
          simp
          refine xappendA_own ?_
          simp [hh, intC]
          done
      | cons y r =>
        rw [hR] at hwo hrl
        simp only [ownR] at hwo
        simp at hrl
        simp
        refine ⟨?_, ?_⟩
        · refine xcall_self (by simp) hwo ?_
          simp
          refine ⟨by omega, by omega, ?_⟩
          simp [hh, intC]
          done
        · refine xcall_self (by simp) hwo ?_
          simp
          refine ⟨by omega, by omega, ?_⟩
          simp [hh, intC]
          done
    · have hc : L.contains op.id = false := by simpa using hx
      have hp : oneL L op = L := by unfold oneL touchL; rw [if_neg k1, if_neg k2, if_pos k3, if_neg (by rw [hc]; simp)]
      rw [hp]
      rw [hc] at hhas
      simp only [ocC] at hhas
      rw [k3] at hhas
      simp [c50, ocC, k3]
      refine xcall_self (by simp) hhas ?_
      simp
      refine xappendA_own ?_
      simp [hh]
      omega
  · have hp : oneL L op = L := by unfold oneL; rw [if_neg k1, if_neg k2, if_neg k3]
    rw [hp]
    have b1 : (op.kind == 1) = false := by simpa using k1
    have b2 : (op.kind == 2) = false := by simpa using k2
    have b3 : (op.kind == 3) = false := by simpa using k3
    simp [c50, ocC, k1, k2, k3, b1, b2, b3]
    refine xappendA_own ?_
    simp [hh]
    omega
theorem dfold_c (ops : List Oc) (hbig : L.length + ops.length ≤ 900000) : Contract Try.prog 36 [.sl 1 (enc intC L) none .no, .sl 2 (enc ocC ops) none .no] h (.sl 1 (enc intC (foldL L ops)) none .no) h [] := by
  refine contract_of k36 mixed (by simp [c36]) fun hh hargs => ?_
  simp [c36]
  refine xappendA_own ?_
  simp
  refine ⟨by omega, by omega, ?_⟩
  refine xloop_ok (D := Nat) (fun j => ⟨[(1, .sl 2 (enc ocC ops) none .no), (5, .sl 1 (enc intC (foldL L (ops.take j))) none .no), (6, .v (.int .i64 (j : Int)))], [], h, []⟩) (fun j => j ≤ ops.length) (fun j => ops.length - j) 0 (by omega) ?_ ?_
  · simp [Leq, hh, leqH_take, foldL]
    done
  · intro j hj
    by_cases hlt : j < ops.length
    · have hw : IntKind.i64.wrap ((j : Int) + 1) = (j : Int) + 1 := wrap64 (by omega) (by omega)
      have hb := foldL_len (ops.take j) L
      rw [List.length_take] at hb
      have ho := done_c18 (h := h) (L := foldL L (ops.take j)) (by omega) ops[j]
      rw [← foldL_next hlt] at ho
      simp only [ocC] at ho
      simp [hlt, ocC]
      refine xcall_self (by simp) ho ?_
      simp [hw]
      refine ⟨j + 1, by omega, by omega, ?_⟩
      simp [Leq, hh, leqH_take]
      done
    · have : j = ops.length := by omega
      subst this
      rw [List.take_length]
      simp [hh]
      done
end
end Go.Proofs.Ytabfaambilbpeaa.Ax
/- Which statements a server has, over values without memory: the document's cache. -/
namespace Go.Proofs.Ytabfaambilbpeaa.Ax
open Go.RowKit Go By
set_option linter.unusedSimpArgs false
set_option linter.unusedVariables false
set_option maxRecDepth 10000

theorem leqH_behind {a b : List (List AV)} : ∀ (h : List (List AV)) (k : Nat), leqH (k + h.length) a b → leqH k (h ++ a) (h ++ b)
  | [], k, hh => by simpa using hh
  | c :: r, k, hh => ⟨.inl rfl, leqH_behind r (k + 1) (by simp only [List.length_cons] at hh; rw [show k + 1 + r.length = k + (r.length + 1) by omega]; exact hh)⟩
def dC18 (most : Nat) (L : List Int) : List AV := [.sl 1 (enc intC L) none .no, .v (.int .i64 (most : Int))]
@[simp] theorem dC18_lt (n most : Nat) (L : List Int) : ltL n (dC18 most L) = True := eq_true (by simp [dC18])
theorem opL_doc {most : Nat} {L : List Int} (op : Oc) (h : ¬ (op.kind = 1 ∧ most ≤ L.length)) : opL most L op = oneL L op := by
  unfold opL oneL addL
  by_cases k1 : op.kind = 1
  · have hn : ¬ most ≤ L.length := fun e => h ⟨k1, e⟩
    simp [k1, hn]
  · simp [k1]
theorem opL_skip {most : Nat} {L : List Int} {op : Oc} (h1 : op.kind = 1) (h2 : most ≤ L.length) : opL most L op = L := by
  unfold opL addL
  simp [h1, h2]
theorem dnew18_c {most : Nat} (h1 : 1 ≤ most) (h2 : most ≤ 4096) (h : List (List AV)) : Contract Try.prog 28 [.v (.int .i64 (most : Int))] h (.tup [.box h.length 0, .v (.int .i64 0)]) (h ++ [dC18 most []]) [] := by
  refine contract_of k28 mixed (by simp [c28]) fun hh hargs => ?_
  have n1 : ¬ (most : Int) < 1 := by omega
  have n2 : ¬ (most : Int) > 4096 := by omega
  have hl := ltLL_mono (Nat.le_add_right h.length 1) hh
  have hq := leqH_behind (a := [[.sl 0 [] (some true) .exact, .v (.int .i64 (most : Int))]]) (b := [dC18 most []]) h 0 ⟨.inr (by simp [dC18, leqC, LeqV]), trivial⟩
  simp [c28, n1, n2, hl]
  simp [dC18] at hq ⊢
  exact hq
theorem dnew18_no {most : Int} (hm : most < 1 ∨ most > 4096) (h : List (List AV)) : Contract Try.prog 28 [.v (.int .i64 most)] h (.tup [.v (.pointer none), .v (.int .i64 1)]) h [] := by
  refine contract_of k28 mixed (by simp [c28]) fun hh hargs => ?_
  by_cases n1 : most < 1
  · simp [c28, n1, hh]
  · have n2 : most > 4096 := by omega
    simp [c28, n1, n2, hh]
def gone1 (L L' : List Int) (q : Nat) : List Int := goneL (L.take q) L'
theorem gone1_next {L L' : List Int} {q : Nat} (hq : q < L.length) : gone1 L L' (q + 1) = if L[q] ∈ L' then gone1 L L' q else gone1 L L' q ++ [L[q]] := by
  unfold gone1 goneL
  rw [take_next hq, List.filter_append]
  split
  · rename_i h; simp [h]
  · rename_i h; simp [h]
def outG (ix : Nat) (L : List Int) (H : List (List AV)) (q : Nat) : List Int → St
  | [] => ⟨[(0, .box ix 0), (5, .sl 0 [] (some true) .exact), (6, .sl 1 (enc intC L) none .no), (8, .v (.int .i64 (q : Int)))], [], H, [ix]⟩
  | y :: r => ⟨[(0, .box ix 0), (6, .sl 1 (enc intC L) none .no), (8, .v (.int .i64 (q : Int)))], [(5, .sl 1 (enc intC (y :: r)) none (.own (.slot 5)))], H, [ix]⟩
section
variable {h : List (List AV)} {ix most : Nat} {L : List Int}
set_option maxHeartbeats 1000000 in
theorem dsettle18_c (ht : h[ix]? = some (dC18 most L)) (ho : LrOk most L) (ops : List Oc) (hops : ops.length ≤ 1000) : Contract Try.prog 33 [.box ix 0, .sl 2 (enc ocC ops) none .no] h (.sl 1 (enc intC (goneL L (opsL most L ops))) none .no) (h.set ix (dC18 most (opsL most L ops))) [ix] := by
  have hix := (List.getElem?_eq_some_iff.1 ht).1
  have hset : h.set ix (dC18 most L) = h := by
    rw [← (List.getElem?_eq_some_iff.1 ht).2]; exact List.set_getElem_self hix
  have hgot : ∀ l : List Int, (h.set ix (dC18 most l))[ix]? = some [.sl 1 (enc intC l) none .no, .v (.int .i64 (most : Int))] := fun l => List.getElem?_set_self hix
  have hlen := ho.len
  have hm := ho.most
  have ht2 : h[ix]? = some [.sl 1 (enc intC L) none .no, .v (.int .i64 (most : Int))] := ht
  refine contract_of k33 mixed (by simp [c33]) fun hh hargs => ?_
  have hlt : ∀ l : List Int, ltLL h.length (h.set ix (dC18 most l)) := fun l => ltLL_set hh (by simp)
  have hll : ∀ l : List Int, (h.set ix (dC18 most l)).length = h.length := fun l => List.length_set
  simp [c33, ht2]
  refine xloop_ok (D := Nat) (fun j => ⟨[(0, .box ix 0), (1, .sl 2 (enc ocC ops) none .no), (5, .sl 0 [] (some true) .exact), (6, .sl 1 (enc intC L) none .no), (7, .v (.int .i64 (j : Int)))], [], h.set ix (dC18 most (opsL most L (ops.take j))), [ix]⟩) (fun j => j ≤ ops.length) (fun j => ops.length - j) 0 (by omega) ?_ ?_
  · have e0 : opsL most L (ops.take 0) = L := rfl
    rw [e0, hset]
    simp [Leq, hh, leqH_take, hix]
    done
  · intro j hj
    by_cases hlt2 : j < ops.length
    · have hw : IntKind.i64.wrap ((j : Int) + 1) = (j : Int) + 1 := wrap64 (by omega) (by omega)
      have okj : LrOk most (opsL most L (ops.take j)) := ho.ops
      have hn := opsL_next (most := most) (L := L) hlt2
      obtain ⟨Lj, hLj⟩ : ∃ Lj, Lj = opsL most L (ops.take j) := ⟨_, rfl⟩
      rw [← hLj] at hn okj ⊢
      have hlj := okj.len
      have g := hgot Lj
      have go := done_c18 (h := h.set ix (dC18 most Lj)) (L := Lj) (by omega) ops[j]
      simp only [ocC] at go
      have e9 : ∀ l : List Int, (h.set ix (dC18 most Lj)).set ix [.sl 1 (enc intC l) none .no, .v (.int .i64 (most : Int))] = h.set ix (dC18 most l) := fun l => by unfold dC18; rw [List.set_set]
      by_cases k1 : ops[j].kind = 1
      · by_cases hf : most ≤ Lj.length
        · have hf2 : (most : Int) ≤ (Lj.length : Int) := by omega
          rw [opL_skip k1 hf] at hn
          simp [hlt2, ocC, k1, g, hf, hf2, hw]
          refine ⟨j + 1, by omega, by omega, ?_⟩
          rw [hn]
          simp [Leq, hlt, leqH_take, hix]
          done
        · have hf2 : ¬ (most : Int) ≤ (Lj.length : Int) := by omega
          rw [opL_doc _ (fun e => hf e.2)] at hn
          rw [← hn, k1] at go
          simp [hlt2, ocC, k1, g, hf, hf2]
          refine xcall_self (by simp) go ?_
          simp [g, hw, e9]
          refine ⟨j + 1, by omega, by omega, ?_⟩
          simp [Leq, hlt, leqH_take, hix]
          done
      · rw [opL_doc _ (fun e => k1 e.1)] at hn
        rw [← hn] at go
        have b1 : (ops[j].kind == 1) = false := by simpa using k1
        simp [hlt2, ocC, k1, b1, g]
        refine xcall_self (by simp) go ?_
        simp [g, hw, e9]
        refine ⟨j + 1, by omega, by omega, ?_⟩
        simp [Leq, hlt, leqH_take, hix]
        done
    · have : j = ops.length := by omega
      subst this
      rw [List.take_length]
      have ok' : LrOk most (opsL most L ops) := ho.ops
      obtain ⟨L', hL'⟩ : ∃ L', L' = opsL most L ops := ⟨_, rfl⟩
      rw [← hL'] at ok' ⊢
      have hl' := ok'.len
      have g := hgot L'
      simp
      refine xloop_ok (D := Nat) (fun q => outG ix L (h.set ix (dC18 most L')) q (gone1 L L' q)) (fun q => q ≤ L.length) (fun q => L.length - q) 0 (by omega) ?_ ?_
      · simp [Leq, hlt, leqH_take, hix, outG, gone1, goneL]
        done
      · intro q hq
        have hgl : (gone1 L L' q).length ≤ 4096 := Nat.le_trans (List.length_filter_le _ _) (by simp; omega)
        by_cases hqt : q < L.length
        · have hw : IntKind.i64.wrap ((q : Int) + 1) = (q : Int) + 1 := wrap64 (by omega) (by omega)
          have hn := gone1_next (L' := L') hqt
          have gh := dhas_c (h := h.set ix (dC18 most L')) (L := L') (by omega) L[q]
          by_cases hm' : L[q] ∈ L'
          · have hc : L'.contains L[q] = true := by simpa using hm'
            rw [hc] at gh
            rw [if_pos hm'] at hn
            cases hR : gone1 L L' q with
            | nil =>
              simp [outG, hqt, intC, g]
              refine xcall_self (by simp) gh ?_
              simp [hw]
              refine ⟨q + 1, by omega, by omega, ?_⟩
              rw [hn, hR]
              simp [Leq, hlt, leqH_take, hix, outG, intC]
              done
            | cons y r =>
              simp [outG, hqt, intC, g]
              refine xcall_self (by simp) gh ?_
              simp [hw]
              refine ⟨q + 1, by omega, by omega, ?_⟩
              rw [hn, hR]
              simp [Leq, hlt, leqH_take, hix, outG, intC]
              done
          · have hc : L'.contains L[q] = false := by simpa using hm'
            rw [hc] at gh
            rw [if_neg hm'] at hn
            cases hR : gone1 L L' q with
            | nil =>
              rw [hR] at hn
              simp [outG, hqt, intC, g]
              refine xcall_self (by simp) gh ?_
              simp [hqt, intC]
              refine xappendA_own ?_
              simp [hw]
              refine ⟨q + 1, by omega, by omega, ?_⟩
              rw [hn]
              simp [Leq, hlt, leqH_take, hix, outG, intC]
              done
            | cons y r =>
              rw [hR] at hn hgl
              simp at hgl
              simp [outG, hqt, intC, g]
              refine xcall_self (by simp) gh ?_
              simp [hqt, intC, hw]
              refine ⟨by omega, by omega, q + 1, by omega, by omega, ?_⟩
              rw [hn]
              simp [Leq, hlt, leqH_take, hix, outG, intC]
              done
        · have : q = L.length := by omega
          subst this
          have hG : gone1 L L' L.length = goneL L L' := by unfold gone1; rw [List.take_length]
          rw [hG]
          cases hR : goneL L L' with
          | nil =>
            simp [outG, hlt, leqH_take, hix]
            done
          | cons y r =>
            simp [outG, hlt, leqH_take, hix, intC]
            done
theorem dspec18_c (ht : h[ix]? = some (dC18 most L)) (hL : L.length ≤ 100000) (l : List En) (hl : l.length ≤ 1000) (hfew : ∀ e ∈ l, e.cache.length ≤ 10) : Contract Try.prog 38 [.box ix 0, .sl 8 (enc enC l) none .no] h (.sl 1 (enc intC (specL L l)) none .no) h [] := by
  have ht2 : h[ix]? = some [.sl 1 (enc intC L) none .no, .v (.int .i64 (most : Int))] := ht
  refine contract_of k38 mixed (by simp [c38]) fun hh hargs => ?_
  simp [c38, ht2]
  refine xappendA_own ?_
  simp
  refine ⟨by omega, by omega, ?_⟩
  refine xloop_ok (D := Nat) (fun j => ⟨[(1, .sl 8 (enc enC l) none .no), (5, .sl 1 (enc intC (specL L (l.take j))) none .no), (6, .v (.int .i64 (j : Int)))], [], h, []⟩) (fun j => j ≤ l.length) (fun j => l.length - j) 0 (by omega) ?_ ?_
  · simp [Leq, hh, leqH_take, specL]
    done
  · intro j hj
    by_cases hlt : j < l.length
    · have hw : IntKind.i64.wrap ((j : Int) + 1) = (j : Int) + 1 := wrap64 (by omega) (by omega)
      have hb := specL_len (l.take j) L fun e he => hfew e (List.mem_of_mem_take he)
      rw [List.length_take] at hb
      have hc := hfew l[j] (List.getElem_mem hlt)
      have gf := dfold_c (h := h) (L := specL L (l.take j)) l[j].cache (by omega)
      rw [← specL_next hlt] at gf
      simp [hlt, enC_mk]
      refine xcall_self (by simp) gf ?_
      simp [hw]
      refine ⟨j + 1, by omega, by omega, ?_⟩
      simp [Leq, hh, leqH_take]
      done
    · have : j = l.length := by omega
      subst this
      rw [List.take_length]
      simp [hh]
      done
end
end Go.Proofs.Ytabfaambilbpeaa.Ax
/- Layer 18's statement: a cache lives as the document's does. -/
namespace Go.Proofs.Ytabfaambilbpeaa.Ax
open Go.RowKit Go By
set_option linter.unusedSimpArgs false
set_option linter.unusedVariables false
set_option maxRecDepth 10000

theorem called_ids {s : St} {A B : List AV} (hab : idsOf A = idsOf B) (d : Option Nat) (r : AV) (h : List (List AV)) (wr : List Nat) : s.called A d r h wr = s.called B d r h wr := by
  unfold St.called killedBy; rw [hab]
/-- A list of numbers, as a call answers one. -/
def LisAt (h : List (List AV)) (r : AV) (L : List Int) : Prop := (L = [] ∧ (r = .sl 1 [] none .no ∨ r = .sl 0 [] none .exact)) ∨ ∃ b c, r = .bsl b 0 1 L.length ∧ h[b]? = some (intsA c) ∧ c.take L.length = L
section
variable {h h2 : List (List AV)} {r : AV} {L ys : List Int}
theorem LisAt.id (hr : LisAt h r L) : r.idOf = none := by
  rcases hr with ⟨_, rfl | rfl⟩ | ⟨b, c, rfl, _⟩ <;> rfl
theorem LisAt.unown (hr : LisAt h r L) : r.unown = r := by
  rcases hr with ⟨_, rfl | rfl⟩ | ⟨b, c, rfl, _⟩ <;> rfl
theorem LisAt.cells (hr : LisAt h r L) : r.cells = some [r] := by
  rcases hr with ⟨_, rfl | rfl⟩ | ⟨b, c, rfl, _⟩ <;> rfl
theorem LisAt.stay (hr : LisAt h r L) (hs : ∀ q, q < h.length → ∀ c, h[q]? = some (intsA c) → h2[q]? = h[q]?) : LisAt h2 r L := by
  rcases hr with hr | ⟨b, c, hr, hb, hc⟩
  · exact .inl hr
  · exact .inr ⟨b, c, hr, by rw [hs b (List.getElem?_eq_some_iff.1 hb).1 c hb]; exact hb, hc⟩
theorem LisAt.of_fo {lo : Nat} {o : Option Nat} {c : List Int} (ht : FoAt lo h o c L) : LisAt h (foV o L.length) L := by
  cases o with
  | none => exact .inl ⟨ht.emp rfl, .inr rfl⟩
  | some b => exact .inr ⟨b, c, rfl, (ht.row b rfl).1, (ht.row b rfl).2.2.2.1⟩
theorem xequal {s : St} {d : Option Nat} {K : St → List Nat → Prop} (hr : LisAt s.heap r L) (hl : L.length ≤ 1000000) (hk : K (s.called [] d (.v (.bool (L == ys))) s.heap []) []) : xcall Try.prog 19 [r, .sl 1 (enc intC ys) none .no] s d K := by
  have e0 := equal1_any (P := Try.prog) mixed k19 [] ys s.heap (by simp)
  rw [eqL_beq] at e0
  rcases hr with ⟨rfl, rfl | rfl⟩ | ⟨b, c, rfl, hb, hc⟩
  · refine xcall_of e0 (by simp) (by simp) ?_
    rw [called_ids (B := [])]
    · exact hk
    · simp [idsOf, handL, hand, AV.idOf]
  · refine xcall_of e0 (by simp) (by simp) ?_
    rw [called_ids (B := [])]
    · exact hk
    · simp [idsOf, handL, hand, AV.idOf]
  · refine xcall_self (by simp) (equal_bs hb hc hl) ?_
    rw [called_ids (B := [])]
    · exact hk
    · simp [idsOf, AV.idOf]
end
/-- Settling, in one form. -/
theorem csettles_u {lo : Nat} {h : List (List AV)} {i a most : Nat} {o : Option Nat} {c L : List Int} (ht : CaAt lo h i a most o c L) (ho : LrOk most L) (ops : List Oc) (hops : ops.length ≤ 1000000) :
    ∃ h' o' c' r, Contract Try.prog 32 [.box i 0, .sl 2 (enc ocC ops) none .no] h r h' (a :: o.toList) ∧ CaAt lo h' i a most o' c' (opsL most L ops) ∧
      (∀ q, q < h.length → q ≠ a → o ≠ some q → h'[q]? = h[q]?) ∧ h.length ≤ h'.length ∧ (∀ b, o' = some b → o = some b ∨ h.length ≤ b) ∧ LisAt h' r (goneL L (opsL most L ops)) := by
  by_cases hL : L = []
  · subst hL
    obtain ⟨h', o', c', k1, t1, s1, l1, q1⟩ := csettles_e ht ho ops hops
    exact ⟨h', o', c', _, k1, t1, s1, l1, q1, .inl ⟨rfl, .inl rfl⟩⟩
  · obtain ⟨h', o', c', cg, k1, t1, s1, l1, q1, r1, r2⟩ := csettles_v ht ho hL ops hops
    exact ⟨h', o', c', _, k1, t1, s1, by omega, fun b e => (q1 b e).imp id (fun e => by omega), .inr ⟨_, cg, rfl, r1, r2⟩⟩
theorem clist_u {lo : Nat} {h : List (List AV)} {i a most : Nat} {o : Option Nat} {c L : List Int} (ht : CaAt lo h i a most o c L) (hl : L.length ≤ 4096) :
    ∃ h' r, Contract Try.prog 34 [.box i 0] h r h' [] ∧ LisAt h' r L ∧ (∀ q, q < h.length → h'[q]? = h[q]?) ∧ h.length ≤ h'.length ∧ ltLL h'.length h' := by
  by_cases hL : L = []
  · subst hL
    exact ⟨h, _, clist_x ht, .inl ⟨rfl, .inr rfl⟩, fun _ _ => rfl, Nat.le_refl _, ht.lru.lt⟩
  · exact ⟨h ++ [intsA L], _, clist_v ht hl hL, .inr ⟨h.length, L, rfl, by simp, List.take_length⟩, fun q hq => List.getElem?_append_left hq, by simp, by
      rw [List.length_append]; exact ltLL_append.2 ⟨ltLL_mono (Nat.le_add_right _ _) ht.lru.lt, by simp⟩⟩
theorem CaAt.put {h : List (List AV)} {most : Nat} {o : Option Nat} {c L : List Int} (ht : CaAt 0 h 1 0 most o c L) (hout : ∀ b, o = some b → 3 ≤ b) (cs : List AV) (hcs : ltL h.length cs) : CaAt 0 (h.set 2 cs) 1 0 most o c L :=
  ht.to (ht.lru.move (List.getElem?_set_ne (by omega)) (fun b e => List.getElem?_set_ne (by have := hout b e; omega)) (by rw [List.length_set]; exact ltLL_set ht.lru.lt hcs)) (List.getElem?_set_ne (by omega)) ht.apart.2
/-- A round of both. -/
theorem cv_step {H : List (List AV)} {most : Nat} {o : Option Nat} {c L : List Int} (hat : CaAt 0 H 1 0 most o c L) (hdoc : H[2]? = some (dC18 most L)) (hok : LrOk most L) (hout : ∀ b, o = some b → 3 ≤ b) (ops : List Oc) (hops : ops.length ≤ 10) (list : List Int) (hlist : list.length ≤ 60) :
    ∃ h1 h1' h2 h3 r1 r2 r3 o1 c1 L', L' = opsL most L ops ∧ h1' = h1.set 2 (dC18 most L') ∧
      Contract Try.prog 32 [.box 1 0, .sl 2 (enc ocC ops) none .no] H r1 h1 (0 :: o.toList) ∧
      Contract Try.prog 33 [.box 2 0, .sl 2 (enc ocC ops) none .no] h1 (.sl 1 (enc intC (goneL L L')) none .no) h1' [2] ∧
      LisAt h1 r1 (goneL L L') ∧ LisAt h1' r1 (goneL L L') ∧
      Contract Try.prog 34 [.box 1 0] h1' r2 h2 [] ∧ LisAt h2 r2 L' ∧
      Contract Try.prog 35 [.sl 1 (enc intC list) none .no, .sl 2 (enc ocC ops) none .no] h2 r3 h3 [] ∧ LisAt h3 r3 (foldL list ops) ∧
      Contract Try.prog 36 [.sl 1 (enc intC list) none .no, .sl 2 (enc ocC ops) none .no] h3 (.sl 1 (enc intC (foldL list ops)) none .no) h3 [] ∧
      CaAt 0 h3 1 0 most o1 c1 L' ∧ h1'[2]? = some (dC18 most L') ∧ h2[2]? = some (dC18 most L') ∧ h3[2]? = some (dC18 most L') ∧ LrOk most L' ∧ (∀ b, o1 = some b → 3 ≤ b) ∧ (goneL L L').length ≤ 4096 ∧ (foldL list ops).length ≤ 70 ∧
      3 ≤ H.length ∧ H.length ≤ h1.length ∧ h1.length = h1'.length ∧ h1'.length ≤ h2.length ∧ h2.length ≤ h3.length := by
  have hlen := hok.len
  have hm := hok.most
  have h2l := (List.getElem?_eq_some_iff.1 hdoc).1
  obtain ⟨h1, o1, c1, r1, k1, t1, s1, l1, q1, a1⟩ := csettles_u hat hok ops (by omega)
  have ok' : LrOk most (opsL most L ops) := hok.ops
  have d1 : h1[2]? = some (dC18 most L) := by
    rw [s1 2 h2l (by omega) (fun e => by have := hout 2 e; omega)]; exact hdoc
  have kd := dsettle18_c d1 hok ops (by omega)
  have hl1' : 2 < h1.length := by omega
  have hout1 : ∀ b, o1 = some b → 3 ≤ b := fun b e => by
    rcases q1 b e with e | e
    · exact hout b e
    · omega
  obtain ⟨L', hL'⟩ : ∃ L', L' = opsL most L ops := ⟨_, rfl⟩
  rw [← hL'] at ok' t1 a1 kd
  have t1' := t1.put hout1 (dC18 most L') (by simp)
  have g1' : (h1.set 2 (dC18 most L'))[2]? = some (dC18 most L') := List.getElem?_set_self hl1'
  obtain ⟨h2, r2, k2, a2, s2, l2, lt2⟩ := clist_u t1' (by have := ok'.len; omega)
  have l2' : h1.length ≤ h2.length := by simpa using l2
  have d2 : h2[2]? = some (dC18 most L') := by rw [s2 2 (by simp; omega)]; exact g1'
  obtain ⟨h3, o3, c3, k3, t3, s3, l3⟩ := cfold_c lt2 list ops (by omega)
  have d3 : h3[2]? = some (dC18 most L') := by rw [s3 2 (by omega)]; exact d2
  have t2 := t1'.stay s2 lt2
  have t4 := t2.stay s3 t3.lt
  have hgl : (goneL L L').length ≤ L.length := List.length_filter_le _ _
  have hfl := foldL_len ops list
  have hnd : ∀ c : List Int, dC18 most L ≠ intsA c := fun c e => by
    have := congrArg (fun l : List AV => l[0]?) e
    cases c with
    | nil => simp [dC18] at e
    | cons y r => simp [dC18, intsA] at this
  refine ⟨h1, _, h2, h3, r1, r2, _, o1, c1, L', hL', rfl, k1, kd, a1, a1.stay (fun q hq c hc => ?_), k2, a2, k3, .of_fo t3, dfold_c ops (by omega), t4, g1', d2, d3, ok', hout1, by omega, by omega, by omega, l1, by simp, l2, l3⟩
  refine List.getElem?_set_ne fun e => ?_
  subst e
  rw [d1] at hc
  injection hc with hc
  exact hnd c hc
structure CV where
  H : List (List AV)
  o : Option Nat
  c : List Int
  L : List Int
  j : Nat
structure CV.Ok (n most : Nat) (d : CV) : Prop where
  le : d.j ≤ n
  at_ : CaAt 0 d.H 1 0 most d.o d.c d.L
  doc : d.H[2]? = some (dC18 most d.L)
  ok : LrOk most d.L
  out : ∀ b, d.o = some b → 3 ≤ b
set_option maxHeartbeats 4000000 in
theorem clives_c (most : Int) (l : List (List Oc)) (hlm : l.length ≤ maxLen) (later : List En) (list : List Int) : Contract Try.prog 6 [.v (.int .i64 most), .sl 1 (enc ocL l) none .no, .sl 8 (enc enC later) none .no, .sl 1 (enc intC list) none .no] [] (.v (.bool true)) [] [] := by
  refine contract_of k6 mixed (by simp [c6]) fun hh hargs => ?_
  have hcast : ((20 : Nat) : Int) = 20 := rfl
  simp [c6]
  by_cases hm : most < 1 ∨ most > 4096
  · refine xcall_self (by simp) (cnew_no hm _) ?_
    simp
    refine xcall_self (by simp) (dnew18_no hm _) ?_
    simp
    refine xcall_self (by simp) (cawake_c _) ?_
    simp
    done
  obtain ⟨m, rfl⟩ : ∃ m : Nat, most = (m : Int) := ⟨most.toNat, by omega⟩
  have hm1 : 1 ≤ m := by omega
  have hm2 : m ≤ 4096 := by omega
  have t0 := newCa_at (lo := 0) (h := []) (by simp) m (Nat.zero_le _)
  have o0 := newLr_ok hm1 hm2
  have hn2 : (newCa [] m).length = 2 := rfl
  have hnd := dnew18_c hm1 hm2 (newCa [] m)
  rw [hn2] at hnd
  obtain ⟨h0, hh0⟩ : ∃ h0, h0 = newCa [] m ++ [dC18 m []] := ⟨_, rfl⟩
  rw [← hh0] at hnd
  have t1 : CaAt 0 h0 1 0 m none [] [] := by rw [hh0]; exact t0.app2 [dC18 m []] (by simp)
  have d1 : h0[2]? = some (dC18 m []) := by rw [hh0]; rfl
  have hl0 : h0.length = 3 := by rw [hh0]; rfl
  have hlt0 := t1.lru.lt
  have hlt3 : ltLL 3 h0 := by rw [← hl0]; exact hlt0
  refine xcall_self (by simp) (cnew_c hm1 hm2 _) ?_
  simp
  refine xcall_self (by simp) hnd ?_
  simp
  refine xcall_self (by simp) (few_c l hlm _) ?_
  cases hF : fewL l with
  | false =>
    simp
    refine xcall_self (by simp) (cawake_c _) ?_
    simp [hlt0]
    done
  | true =>
  obtain ⟨hl40, hl10⟩ := fewL_iff.1 hF
  have hent := entries_n later 20 (by omega) h0
  rw [hcast] at hent
  simp
  refine xcall_self (by simp) hent ?_
  cases hE : fewEL later 20 with
  | false =>
    simp
    refine xcall_self (by simp) (cawake_c _) ?_
    simp [hlt0]
    done
  | true =>
  have hE2 : later.length ≤ 20 ∧ ∀ e ∈ later, e.cache.length ≤ 10 := by
    unfold fewEL at hE
    simp [fewE] at hE
    exact ⟨by omega, fun e he => (hE.2 e he).2.2.1⟩
  obtain ⟨hl20, hfew⟩ := hE2
  by_cases hli : 60 < (list.length : Int)
  · simp [hli]
    refine xcall_self (by simp) (cawake_c _) ?_
    simp [hlt0]
    done
  have hlist : list.length ≤ 60 := by omega
  simp [hli]
  refine xloop_ok (D := CV) (fun d => ⟨[(0, .v (.int .i64 (m : Int))), (2, .sl 8 (enc enC later) none .no), (3, .sl 1 (enc intC list) none .no), (9, .box 1 0), (11, .box 2 0), (53, .sl 1 (enc ocL l) none .no), (54, .v (.int .i64 (l.length : Int))), (55, .v (.int .i64 (d.j : Int)))], [], d.H, []⟩) (CV.Ok l.length m) (fun d => l.length - d.j) ⟨h0, none, [], [], 0⟩ ⟨Nat.zero_le _, t1, d1, o0, fun b e => by cases e⟩ ?_ ?_
  · simp [Leq, hlt3, leqH_take, hl0]
    done
  · rintro ⟨H, o, c, L, j⟩ ⟨hj, hat, hdoc, hok, hout⟩
    dsimp only at hj hat hdoc hok hout
    by_cases hlt : j < l.length
    · have hc10 := hl10 l[j] (List.getElem_mem hlt)
      have hw : IntKind.i64.wrap ((j : Int) + 1) = (j : Int) + 1 := wrap64 (by omega) (by omega)
      obtain ⟨h1, h1', h2, h3, r1, r2, r3, o1, c1, L', hL', hh1', k1, kd, a1, a1', k2, a2, k3, a3, kf, t3, d1', d2, d3, ok', out', n1, n2, z0, z1, z2, z3, z4⟩ := cv_step hat hdoc hok hout l[j] hc10 list hlist
      have hlen' := ok'.len
      have i1 := a1'.id
      have i2 := a2.id
      have i3 := a3.id
      have u1 := a1'.unown
      have u2 := a2.unown
      have u3 := a3.unown
      have e1 : h1'[2]? = some [.sl 1 (enc intC L') none .no, .v (.int .i64 (m : Int))] := d1'
      have e2 : h2[2]? = some [.sl 1 (enc intC L') none .no, .v (.int .i64 (m : Int))] := d2
      simp [hlt, ocL]
      refine xcall_self (by simp) k1 ?_
      simp [i1, u1]
      refine xcall_self (by simp) kd ?_
      simp [i1, u1]
      refine xequal a1' (by omega) ?_
      simp [e1]
      refine xcall_self (by simp) k2 ?_
      simp [i2, u2, e1, e2]
      refine xequal a2 (by omega) ?_
      simp
      refine xcall_self (by simp) k3 ?_
      simp [i3, u3]
      refine xcall_self (by simp) kf ?_
      simp [i3, u3]
      refine xequal a3 (by omega) ?_
      simp [hw]
      refine ⟨⟨h3, o1, c1, L', j + 1⟩, ⟨by show j + 1 ≤ l.length; omega, t3, d3, ok', out'⟩, by show l.length - (j + 1) < l.length - j; omega, ?_⟩
      have hlt3 := t3.lru.lt
      have b1 : 1 < h3.length := by omega
      have b2 : 2 < h3.length := by omega
      simp [Leq, hlt3, leqH_take, b1, b2]
      done
    · have : j = l.length := by omega
      subst this
      have hlen := hok.len
      obtain ⟨h2, o2, c2, k2, t2, s2, l2⟩ := cspec_c hat hok later (by omega) hfew
      have T2 := hat.stay s2 t2.lt
      have h2l := (List.getElem?_eq_some_iff.1 hdoc).1
      have dd : h2[2]? = some (dC18 m L) := by rw [s2 2 h2l]; exact hdoc
      have ks := dspec18_c dd (by omega) later (by omega) hfew
      have a2 := LisAt.of_fo t2
      have hWl := specL_len later L hfew
      obtain ⟨W, hWd⟩ : ∃ W, W = specL L later := ⟨_, rfl⟩
      rw [← hWd] at k2 t2 a2 ks hWl
      simp
      refine xcall_self (by simp) k2 ?_
      simp
      refine xcall_self (by simp) ks ?_
      simp
      refine xequal a2 (by omega) ?_
      simp
      refine xcall_self (by simp) (cmost_c T2) ?_
      simp
      refine xcall_self (by simp) (cawake_c _) ?_
      have hlt2 := t2.lt
      simp [hlt2]
      done
theorem clives_l (most : Int) (l : List (List Oc)) (later : List En) (list : List Int) (h1 : l.length ≤ maxLen ∧ ∀ x ∈ l, x.length ≤ maxLen ∧ ∀ y ∈ x, OkOc y) : Contract Try.prog 6 [.v (.int .i64 most), .sl 1 (enc ocL l) none .no, .sl 8 (enc enC later) none .no, .sl 1 (enc intC list) none .no] [] (.v (.bool true)) [] [] := clives_c most l h1.1 later list
end Go.Proofs.Ytabfaambilbpeaa.Ax
namespace Go.Proofs.Ytabfaambilbpeaa.cacheLives
open Go.ChangeShapes Go.WideShapes Go.ChangeAt Go.RowKit
open Go.ChangeMaps (open_string shut_string)
set_option linter.unusedVariables false

theorem own : ownKnob Try.prog.godebug = none := by kernel_rfl
theorem laidOut : laidOutB Try.prog = true := by kernel_rfl

set_option maxRecDepth 100000 in
theorem lifted (os : Os) (started : os.Started) (H : Type) (enc : TypeId × Value → H) :
    ReturnsInHanded {} Try.checked os 6 .any (Rows.cacheLivesSpec.pre6 enc Try.prog Try.f6 Rows.cacheLivesRow.domain false) (Rows.cacheLivesSpec.post enc Try.prog Try.f6 false true false false) := by
  refine returnsInHanded_of_change (C := Try.checked) own started (by kernel_rfl) Try.func6
    (ChangeSpec.witness6 (enc := enc) (C := Try.checked) false ⟨#[], #[.int .i64 0, .slice none 0 0, .slice none 0 0, .slice none 0 0], []⟩ 8 (by kernel_rfl) (by kernel_rfl) (by kernel_rfl) (by kernel_rfl)) ?_
  intro W base args ds gs before hval0 hW hcnd _
  have hval : ∀ (j : Nat) t v, Try.f6.params[j]? = some t → args[j]? = some v → Value.okWide Try.prog W .any base t v := hval0
  have hW' := hW
  obtain ⟨p, q, hA0, hV, rfl, hfz, hnd⟩ := hW
  have hA : DataW.TrodAll enc Try.prog W 0 (fun _ => true) true Try.f6.params.toList args.toList ds p := hA0
  rw [Try.params6] at hA hval
  obtain ⟨v0, vs0, d0, ds0, p0, q0, hargs, rfl, rfl, h0, r0⟩ := trodAll_cons hA
  obtain ⟨v1, vs1, d1, ds1, p1, q1, rfl, rfl, rfl, h1, r1⟩ := trodAll_cons r0
  obtain ⟨v2, vs2, d2, ds2, p2, q2, rfl, rfl, rfl, h2, r2⟩ := trodAll_cons r1
  obtain ⟨v3, vs3, d3, ds3, p3, q3, rfl, rfl, rfl, h3, r3⟩ := trodAll_cons r2
  obtain ⟨rfl, rfl, rfl⟩ := trodAll_nil r3
  obtain rfl : args = #[v0, v1, v2, v3] := by cases args; simp_all
  obtain ⟨rfl, rfl⟩ := trodVars_none hV
  have k0 := h0
  have lt0 : ∀ x ∈ p0, x.block < W.heap.size := by obtain ⟨m, hm⟩ := k0; exact DataW.trod_lt m _ _ _ hm
  obtain ⟨a0, ok0, s0⟩ := Ax.arg_int Try.underlying3 (hval 0 3 v0 rfl rfl) h0
  have k1 := h1
  have lt1 : ∀ x ∈ p1, x.block < W.heap.size := by obtain ⟨m, hm⟩ := k1; exact DataW.trod_lt m _ _ _ hm
  obtain ⟨a1, ok1, s1⟩ := Ax.arg_slice Try.underlying49 Ax.sh_ocCLL (hval 1 49 v1 rfl rfl) h1
  have k2 := h2
  have lt2 : ∀ x ∈ p2, x.block < W.heap.size := by obtain ⟨m, hm⟩ := k2; exact DataW.trod_lt m _ _ _ hm
  obtain ⟨a2, ok2, s2⟩ := Ax.arg_slice Try.underlying50 Ax.sh_enCL (hval 2 50 v2 rfl rfl) h2
  have k3 := h3
  have lt3 : ∀ x ∈ p3, x.block < W.heap.size := by obtain ⟨m, hm⟩ := k3; exact DataW.trod_lt m _ _ _ hm
  obtain ⟨a3, ok3, s3⟩ := Ax.arg_slice Try.underlying37 Ax.sh_ints (hval 3 37 v3 rfl rfl) h3
  clear hA0 hval0
  refine (Ax.law_walk (w := W) (Ax.dom_any W) (Ax.clives_l a0 a1 a2 a3 ok1) (by simp) (.cons s0 (.cons s1 (.cons s2 (.cons s3 .nil))))).mono fun e W' ⟨he, bel⟩ => ?_
  subst he
  exact ⟨_, rfl, _, _, _, [], _, [], hW', trodAll_mk1 (shut_bool Try.underlying4 _), (trodAll_cons_mk (Below.trod laidOut (by kernel_rfl) (of_decide_eq_true (by kernel_rfl)) k0 bel lt0) (trodAll_cons_mk (Below.trod laidOut (by kernel_rfl) (of_decide_eq_true (by kernel_rfl)) k1 bel lt1) (trodAll_cons_mk (Below.trod laidOut (by kernel_rfl) (of_decide_eq_true (by kernel_rfl)) k2 bel lt2) (trodAll_cons_mk (Below.trod laidOut (by kernel_rfl) (of_decide_eq_true (by kernel_rfl)) k3 bel lt3) trodAll_mk0)))), rfl, bel.frame _, fun h => by cases h⟩

theorem over : Rows.cacheLivesRow.holds Try.pinned (OpenSpec.ofChange Rows.cacheLivesSpec) :=
  OpenClaim.holds_of_wide 6 Try.f6 rfl rfl rfl rfl rfl rfl rfl ⟨rfl, rfl, rfl, rfl, rfl⟩ rfl rfl rfl rfl rfl (by kernel_rfl) Try.func6 (by kernel_rfl)
    (of_decide_eq_true (by kernel_rfl)) (by unfold Func.isWrapper; first | (rw [if_pos (by decide +kernel)]; kernel_rfl) | (rw [if_neg (by decide +kernel)]; exact ⟨rfl, rfl⟩))
    (fun os started H enc _ => lifted os started H enc)

theorem proved : Rows.CacheLivesSaid := over
#print axioms proved
end Go.Proofs.Ytabfaambilbpeaa.cacheLives
