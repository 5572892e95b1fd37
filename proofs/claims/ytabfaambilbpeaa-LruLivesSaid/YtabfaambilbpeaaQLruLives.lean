/- A list does any calls in any order as the document says: for every number and every list of calls, at this commit. -/
import Derived.Test.YtabfaambilbpeaaQAxLw
import Derived.Test.YtabfaambilbpeaaRows
import Derived.Test.YtabfaambilbpeaaQElems
import Derived.Test.YtabfaambilbpeaaQAxX
import Derived.WalkKit
import Derived.ProofKit
import Derived.OpenShut
import Derived.ShutString
import Derived.ChangeOld
import Derived.Below
/- A few numbers, by when they were used last, over values without memory: the document's list. -/
namespace Go.Proofs.Ytabfaambilbpeaa.Ax
open Go.RowKit Go By
set_option linter.unusedSimpArgs false
set_option linter.unusedVariables false
set_option maxRecDepth 10000

/-- The numbers in a variable's first cell: nil, or a row whose room is that cell's. -/
def liK (i : Nat) : List Int → AV
  | [] => .sl 0 [] (some true) .exact
  | x :: r => .sl 1 (enc intC (x :: r)) none (.own (.cell i 0))
theorem liK_some {i : Nat} {L : List Int} (h : L ≠ []) : liK i L = .sl 1 (enc intC L) none (.own (.cell i 0)) := by cases L with | nil => exact absurd rfl h | cons _ _ => rfl
@[simp] theorem liK_lt (i n : Nat) (l : List Int) : (liK i l).lt n := by cases l <;> simp [liK, intC]
structure RlAt (h : List (List AV)) (i most : Nat) (L : List Int) : Prop where
  top : h[i]? = some [liK i L, .v (.int .i64 (most : Int))]
def rlH (h : List (List AV)) (i most : Nat) (L : List Int) : List (List AV) := h.set i [liK i L, .v (.int .i64 (most : Int))]
section
variable {h : List (List AV)} {i most : Nat} {L : List Int}
theorem RlAt.i_lt (ht : RlAt h i most L) : i < h.length := (List.getElem?_eq_some_iff.1 ht.top).1
theorem RlAt.put (hi : i < h.length) (most : Nat) (L' : List Int) : RlAt (rlH h i most L') i most L' := ⟨by unfold rlH; rw [List.getElem?_set_self hi]⟩
theorem has_take {x : Int} {j : Nat} (hj : j < L.length) (h1 : x ∉ L.take j) (h2 : L[j] ≠ x) : x ∉ L.take (j + 1) := by
  rw [take_next hj]
  intro h
  rcases List.mem_append.1 h with h | h
  · exact h1 h
  · simp at h; exact h2 h.symm
theorem rhas_c (ht : RlAt h i most L) (hl : L.length ≤ 4096) (x : Int) : Contract Try.prog 23 [.box i 0, .v (.int .i64 x)] h (.v (.bool (L.contains x))) h [] := by
  have e1 := ht.top
  have hi := ht.i_lt
  refine contract_of k23 mixed (by simp [c23]) fun hh hargs => ?_
  simp [c23]
  refine xloop_ok (D := Nat) (fun j => ⟨[(0, .box i 0), (1, .v (.int .i64 x)), (5, .v (.int .i64 (j : Int)))], [], h, []⟩) (fun j => j ≤ L.length ∧ x ∉ L.take j) (fun j => L.length - j) 0 ⟨by omega, by simp⟩ ?_ ?_
  · simp [Leq, hh, leqH_take, hi]
    done
  · rintro j ⟨hj, hno⟩
    by_cases hlt : j < L.length
    · have hne : L ≠ [] := fun e => by rw [e] at hlt; cases hlt
      rw [liK_some hne] at e1
      have hw : IntKind.i64.wrap ((j : Int) + 1) = (j : Int) + 1 := wrap64 (by omega) (by omega)
      by_cases e : L[j] = x
      · have hc : L.contains x = true := by simp; exact e ▸ List.getElem_mem hlt
        have hm : x ∈ L := e ▸ List.getElem_mem hlt
        simp [e1, hlt, intC, e, hh, hm]
        done
      · simp [e1, hlt, intC, e, hw]
        refine ⟨j + 1, ⟨by omega, has_take hlt hno e⟩, by omega, ?_⟩
        simp [Leq, hh, leqH_take, hi]
    · have : j = L.length := by omega
      subst this
      rw [List.take_length] at hno
      have hc : L.contains x = false := by simpa using hno
      by_cases hL : L = []
      · subst hL
        simp [e1, liK, hh]
        done
      · rw [liK_some hL] at e1
        simp [e1, hh, hno]
        done
theorem remI_snoc (l : List Int) (x y : Int) : remI (l ++ [y]) x = if y = x then remI l x else remI l x ++ [y] := by
  unfold remI
  rw [List.filter_append]
  by_cases e : y = x
  · simp [e]
  · simp [e]
/-- What is built. -/
def outS (h : List (List AV)) (i : Nat) (x : Int) (j : Nat) : List Int → St
  | [] => ⟨[(0, .box i 0), (1, .v (.int .i64 x)), (5, .sl 0 [] (some true) .exact), (6, .v (.int .i64 (j : Int)))], [], h, []⟩
  | y :: r => ⟨[(0, .box i 0), (1, .v (.int .i64 x)), (6, .v (.int .i64 (j : Int)))], [(5, .sl 1 (enc intC (y :: r)) none (.own (.slot 5)))], h, []⟩
theorem rremove_c (ht : RlAt h i most L) (hl : L.length ≤ 4096) (x : Int) : Contract Try.prog 17 [.box i 0, .v (.int .i64 x)] h (.v (.bool (L.contains x))) (rlH h i most (remI L x)) [i] := by
  have e1 := ht.top
  have hi := ht.i_lt
  refine contract_of k17 mixed (by simp [c17]) fun hh hargs => ?_
  simp [c17]
  refine xloop_ok (D := Nat) (fun j => outS h i x j (remI (L.take j) x)) (fun j => j ≤ L.length) (fun j => L.length - j) 0 (by omega) ?_ ?_
  · simp [Leq, hh, leqH_take, hi, outS, remI]
    done
  · intro j hj
    by_cases hlt : j < L.length
    · have hne : L ≠ [] := fun e => by rw [e] at hlt; cases hlt
      rw [liK_some hne] at e1
      have hw : IntKind.i64.wrap ((j : Int) + 1) = (j : Int) + 1 := wrap64 (by omega) (by omega)
      have hn := take_next hlt
      have hrl : (remI (L.take j) x).length ≤ 4096 := Nat.le_trans (List.length_filter_le _ _) (by simp; omega)
      by_cases e : L[j] = x
      · have e2 : remI (L.take (j + 1)) x = remI (L.take j) x := by rw [hn, remI_snoc]; simp [e]
        cases hR : remI (L.take j) x with
        | nil =>
          simp [outS, e1, hlt, intC, e, hw]
          refine ⟨j + 1, by omega, by omega, ?_⟩
          rw [e2, hR]
          simp [Leq, hh, leqH_take, hi, outS, intC]
          done
        | cons y r =>
          simp [outS, e1, hlt, intC, e, hw]
          refine ⟨j + 1, by omega, by omega, ?_⟩
          rw [e2, hR]
          simp [Leq, hh, leqH_take, hi, outS, intC]
          done
      · have e2 : remI (L.take (j + 1)) x = remI (L.take j) x ++ [L[j]] := by rw [hn, remI_snoc]; simp [e]
        cases hR : remI (L.take j) x with
        | nil =>
          rw [hR] at e2
          simp [outS, e1, hlt, intC, e, hw]
          refine xappendA_own ?_
          simp [hw]
          refine ⟨j + 1, by omega, by omega, ?_⟩
          rw [e2]
          simp [Leq, hh, leqH_take, hi, outS, intC]
          done
        | cons y r =>
          rw [hR] at e2 hrl
          simp at hrl
          simp [outS, e1, hlt, intC, e, hw]
          refine ⟨by omega, by omega, j + 1, by omega, by omega, ?_⟩
          rw [e2]
          simp [Leq, hh, leqH_take, hi, outS, intC]
          done
    · have : j = L.length := by omega
      subst this
      rw [List.take_length]
      have hcl : ((remI L x).length < L.length) ↔ x ∈ L := by
        unfold remI
        constructor
        · intro h
          by_cases hx : x ∈ L
          · exact hx
          · have := remI_not hx; unfold remI at this; rw [this] at h; omega
        · intro hx
          have h1 := (List.length_filter_lt_length_iff_exists (p := fun y => y != x)).2 ⟨x, hx, by simp⟩
          exact h1
      by_cases hL : L = []
      · subst hL
        simp [e1, liK, remI, outS]
        simp [hh, rlH, hi, leqH_take, liK]
        done
      · have e0 := e1
        rw [liK_some hL] at e1
        cases hR : remI L x with
        | nil =>
          rw [hR] at hcl
          simp [outS, e1]
          simp [hh, rlH, liK, hi, hcl, leqH_take, intC]
          rw [← hcl]; simp
        | cons y r =>
          rw [hR] at hcl
          simp [outS, e1]
          simp [hh, rlH, liK, hi, hcl, leqH_take, intC]
          rw [← hcl]; simp; omega
theorem radd_c (ht : RlAt h i most L) (hm : 1 ≤ most ∧ most ≤ 4096) (hl : L.length ≤ most) (x : Int) : Contract Try.prog 13 [.box i 0, .v (.int .i64 x)] h (.v (.int .i64 (addE most L x))) (rlH h i most (addL most L x)) [i] := by
  have e1 := ht.top
  have hi := ht.i_lt
  have hset : rlH h i most L = h := by
    unfold rlH
    rw [← (List.getElem?_eq_some_iff.1 e1).2]; exact List.set_getElem_self hi
  refine contract_of k13 mixed (by simp [c13]) fun hh hargs => ?_
  simp [c13]
  refine xcall_self (by simp) (rhas_c ht (by omega) x) ?_
  unfold addE addL
  by_cases hx : x ∈ L
  · have hc : L.contains x = true := by simpa using hx
    rw [if_pos hc, if_pos hc, hc, hset]
    simp [hh, leqH_take]
    done
  · have hc : L.contains x = false := by simpa using hx
    have hc' : ¬ L.contains x = true := by rw [hc]; simp
    rw [if_neg hc', if_neg hc', hc]
    by_cases hf : most ≤ L.length
    · rw [if_pos hf, if_pos hf, hset]
      have hL : L ≠ [] := fun e => by subst e; simp at hf; omega
      have hf2 : (most : Int) ≤ (L.length : Int) := by omega
      rw [liK_some hL] at e1
      simp [e1, hf, hf2]
      simp [hh, leqH_take]
      done
    · rw [if_neg hf, if_neg hf]
      have hf2 : ¬ (most : Int) ≤ (L.length : Int) := by omega
      by_cases hL : L = []
      · subst hL
        have hf3 : ¬ (most : Int) ≤ 0 := by omega
        have hf4 : ¬ most = 0 := by omega
        simp [e1, liK, hf3, hf4]
        refine xappendA_own ?_
        simp [e1, liK]
        simp [hh, rlH, liK, hi, leqH_take, intC]
        done
      · rw [liK_some hL] at e1
        have hne : L ++ [x] ≠ [] := by simp
        simp [e1, hf, hf2]
        refine ⟨by omega, by omega, ?_⟩
        simp [e1, unownAt]
        rw [rlH, liK_some hne]
        simp [hh, hi, leqH_take, intC]
        done
theorem rtouch_c (ht : RlAt h i most L) (hn : L.Nodup) (hl : L.length ≤ 4096) (x : Int) : Contract Try.prog 15 [.box i 0, .v (.int .i64 x)] h (.v (.bool (L.contains x))) (rlH h i most (touchL L x)) [i] := by
  have e1 := ht.top
  have hi := ht.i_lt
  have hset : rlH h i most L = h := by
    unfold rlH
    rw [← (List.getElem?_eq_some_iff.1 e1).2]; exact List.set_getElem_self hi
  have hr := rremove_c ht hl x
  unfold touchL
  by_cases hx : x ∈ L
  · have hc : L.contains x = true := by simpa using hx
    rw [if_pos hc]
    rw [hc] at hr ⊢
    have hA := RlAt.put hi most (remI L x)
    obtain ⟨H, hH⟩ : ∃ H, H = rlH h i most (remI L x) := ⟨_, rfl⟩
    have hHl : H.length = h.length := by rw [hH]; simp [rlH]
    have hE : rlH h i most (remI L x ++ [x]) = rlH H i most (remI L x ++ [x]) := by rw [hH]; unfold rlH; rw [List.set_set]
    rw [← hH] at hr hA
    rw [hE]
    have e2 := hA.top
    have hi2 := hA.i_lt
    have hrl := remI_len hn hx
    refine contract_of k15 mixed (by simp [c15]) fun hh hargs => ?_
    have hHl2 : ltLL H.length H := by
      rw [hH]; unfold rlH; rw [List.length_set]
      exact ltLL_set hh (by simp)
    have hle : h.length ≤ H.length := by omega
    simp [c15]
    refine xcall_self (by simp) hr ?_
    by_cases hL : remI L x = []
    · rw [hL] at e2 ⊢
      simp [e2, liK]
      refine xappendA_own ?_
      simp [e2, liK]
      simp [hHl2, hle, rlH, liK, hi2, leqH_take, intC]
      done
    · rw [liK_some hL] at e2
      have hne : remI L x ++ [x] ≠ [] := by simp
      simp [e2]
      refine ⟨by omega, by omega, ?_⟩
      simp [e2, unownAt]
      rw [rlH, liK_some hne]
      simp [hHl2, hle, hi2, leqH_take, intC]
      done
  · have hc : L.contains x = false := by simpa using hx
    have hc' : ¬ L.contains x = true := by rw [hc]; simp
    rw [if_neg hc']
    rw [hc, remI_not hx] at hr
    rw [hc]
    refine contract_of k15 mixed (by simp [c15]) fun hh hargs => ?_
    simp [c15]
    refine xcall_self (by simp) hr ?_
    rw [hset]
    simp [hh, leqH_take]
    done
theorem rnew_c {most : Nat} (h1 : 1 ≤ most) (h2 : most ≤ 4096) (h : List (List AV)) : Contract Try.prog 11 [.v (.int .i64 (most : Int))] h (.tup [.box h.length 0, .v (.int .i64 0)]) (newLr h most) [] := by
  refine contract_of k11 mixed (by simp [c11]) fun hh hargs => ?_
  have n1 : ¬ (most : Int) < 1 := by omega
  have n2 : ¬ (most : Int) > 4096 := by omega
  have hl := ltLL_mono (Nat.le_add_right h.length 1) hh
  simp [c11, n1, n2, newLr, hl]
theorem rnew_no {most : Int} (hm : most < 1 ∨ most > 4096) (h : List (List AV)) : Contract Try.prog 11 [.v (.int .i64 most)] h (.tup [.v (.pointer none), .v (.int .i64 1)]) h [] := by
  refine contract_of k11 mixed (by simp [c11]) fun hh hargs => ?_
  by_cases n1 : most < 1
  · simp [c11, n1, hh]
  · have n2 : most > 4096 := by omega
    simp [c11, n1, n2, hh]
end
end Go.Proofs.Ytabfaambilbpeaa.Ax
/- Layer 17's statement: a list lives as the document's does. -/
namespace Go.Proofs.Ytabfaambilbpeaa.Ax
open Go.RowKit Go By
set_option linter.unusedSimpArgs false
set_option linter.unusedVariables false
set_option maxRecDepth 10000

structure LV where
  H : List (List AV)
  o : Option Nat
  c : List Int
  L : List Int
  j : Nat
structure LV.Ok (n most : Nat) (d : LV) : Prop where
  le : d.j ≤ n
  at_ : LrAt 0 d.H 0 most d.o d.c d.L
  doc : RlAt d.H 1 most d.L
  ok : LrOk most d.L
  out : ∀ b, d.o = some b → 2 ≤ b
/-- A step of both, a variable made ahead of it. -/
theorem lv_step {H : List (List AV)} {most : Nat} {o : Option Nat} {c L L' : List Int} (hat : LrAt 0 H 0 most o c L) (hdoc : RlAt H 1 most L) (hout : ∀ b, o = some b → 2 ≤ b) (x : List AV) (hx : ∀ n, ltL n x)
    {fa fb : FuncId} {aa ab : List AV} {ra rb : AV} (hc : LrAt 0 (H ++ [x]) 0 most o c L → LDoes fa aa 0 (H ++ [x]) 0 most o ra L') (hd : ∀ h1, RlAt h1 1 most L → Contract Try.prog fb ab h1 rb (rlH h1 1 most L') [1]) :
    ∃ h1 h2 o' c', Contract Try.prog fa aa (H ++ [x]) ra h1 (0 :: o.toList) ∧ Contract Try.prog fb ab h1 rb h2 [1] ∧ LrAt 0 h2 0 most o' c' L' ∧ RlAt h2 1 most L' ∧ (∀ b, o' = some b → 2 ≤ b) ∧ h1[H.length]? = some x ∧ h2[H.length]? = some x ∧ (∀ b, o = some b → b < H.length) ∧ 2 ≤ H.length ∧ H.length < h2.length ∧ H.length < h1.length := by
  have hA := hat.app [x] (by simpa using hx _)
  obtain ⟨h1, o', c', k1, t1, s1, l1, q1⟩ := hc hA
  have h2l := hdoc.i_lt
  have hol : ∀ b, o = some b → b < H.length := fun b e => (List.getElem?_eq_some_iff.1 (hat.row b e).1).1
  have hl1 : H.length + 1 ≤ h1.length := by simpa using l1
  have d1 : RlAt h1 1 most L := ⟨by
    rw [s1 1 (by simp; omega) (by omega) (fun e => by have := hout 1 e; omega), List.getElem?_append_left h2l]; exact hdoc.top⟩
  have hx1 : h1[H.length]? = some x := by
    rw [s1 H.length (by simp) (by omega) (fun e => by have := hol _ e; omega)]; simp
  have hout' : ∀ b, o' = some b → 2 ≤ b := fun b e => by
    rcases q1 b e with e | e
    · exact hout b e
    · simp at e; omega
  have hs : ∀ q, q ≠ 1 → (rlH h1 1 most L')[q]? = h1[q]? := fun q hq => by unfold rlH; rw [List.getElem?_set_ne (by omega)]
  have hlen : (rlH h1 1 most L').length = h1.length := by unfold rlH; simp
  refine ⟨h1, rlH h1 1 most L', o', c', k1, hd h1 d1, t1.move (hs 0 (by omega)) (fun b e => hs b (by have := hout' b e; omega)) ?_, RlAt.put (by omega) most L', hout', hx1, ?_, hol, by omega, by omega, by omega⟩
  · rw [hlen]; unfold rlH; exact ltLL_set t1.lt (by simp)
  · rw [hs _ (by omega)]; exact hx1
set_option maxHeartbeats 4000000 in
theorem llives_c (most : Int) (l : List Ld) : Contract Try.prog 3 [.v (.int .i64 most), .sl 2 (enc ldC l) none .no] [] (.v (.bool true)) [] [] := by
  refine contract_of k3 mixed (by simp [c3]) fun hh hargs => ?_
  simp [c3]
  by_cases hm : most < 1 ∨ most > 4096
  · refine xcall_self (by simp) (lnew_no hm _) ?_
    simp
    refine xcall_self (by simp) (rnew_no hm _) ?_
    simp
    refine xloop_ok (D := Unit) (fun _ => ⟨[(7, .v (.pointer none)), (34, .sl 2 (enc ldC l) none .no), (35, .v (.int .i64 (l.length : Int))), (36, .v (.int .i64 0))], [], [], []⟩) (fun _ => True) (fun _ => 0) () trivial ?_ ?_
    · simp [Leq, leqH_take]
      done
    · intro _ _
      by_cases hl : 0 < l.length
      · simp [hl, ldC]
        refine xcall_self (by simp) (lawake_c _) ?_
        simp
        done
      · have : l = [] := List.eq_nil_of_length_eq_zero (by omega)
        subst this
        simp
        refine xcall_self (by simp) (lawake_c _) ?_
        simp
        done
  obtain ⟨m, rfl⟩ : ∃ m : Nat, most = (m : Int) := ⟨most.toNat, by omega⟩
  have hm1 : 1 ≤ m := by omega
  have hm2 : m ≤ 4096 := by omega
  refine xcall_self (by simp) (lnew_c hm1 hm2 _) ?_
  simp
  refine xcall_self (by simp) (rnew_c hm1 hm2 _) ?_
  have hH0 : newLr (newLr [] m) m = [[.sl 0 [] (some true) .exact, .v (.int .i64 (m : Int))], [.sl 0 [] (some true) .exact, .v (.int .i64 (m : Int))]] := rfl
  have t0 : LrAt 0 (newLr (newLr [] m) m) 0 m none [] [] := ⟨rfl, fun _ => rfl, fun b e => (by cases e), Nat.le_refl _, by rw [hH0]; simp⟩
  have d0 : RlAt (newLr (newLr [] m) m) 1 m [] := ⟨rfl⟩
  have hl1 : (newLr [] m).length = 1 := rfl
  simp [hl1]
  refine xloop_ok (D := LV) (fun d => ⟨[(5, .box 0 0), (7, .box 1 0), (34, .sl 2 (enc ldC l) none .no), (35, .v (.int .i64 (l.length : Int))), (36, .v (.int .i64 (d.j : Int)))], [], d.H, []⟩) (LV.Ok l.length m) (fun d => l.length - d.j) ⟨newLr (newLr [] m) m, none, [], [], 0⟩ ⟨Nat.zero_le _, t0, d0, newLr_ok hm1 hm2, fun b e => by cases e⟩ ?_ ?_
  · simp [Leq, hH0, leqH_take]
    done
  · rintro ⟨H, o, c, L, j⟩ ⟨hj, hat, hdoc, hok, hout⟩
    dsimp only at hj hat hdoc hok hout
    by_cases hlt : j < l.length
    · have hlt2 : (j : Int) < (l.length : Int) := by omega
      simp [hlt, ldC]
      by_cases hj100 : 100 ≤ (j : Int)
      · simp [hj100]
        refine xcall_self (by simp) (lawake_c _) ?_
        simp
        done
      have hw : IntKind.i64.wrap ((j : Int) + 1) = (j : Int) + 1 := wrap64 (by omega) (by omega)
      have hxl : ∀ n, ltL n (ldC l[j]) := fun n => by simp [ldC]
      have hlen0 := hok.len
      simp [hj100]
      by_cases hop : l[j].op = 0
      · obtain ⟨h1, h2, o', c', ct1, ct2, T2, D2, q0, q1, q2, q3, q4, q5, q6⟩ := lv_step hat hdoc hout (ldC l[j]) hxl (fun hA => ladd_c hA hok l[j].id) (fun h1 hD => radd_c hD ⟨hm1, hm2⟩ hlen0 l[j].id)
        have ok' := hok.addL l[j].id
        generalize addL m L l[j].id = L' at *
        simp only [ldC] at ct1 q1 q2
        have hlen := ok'.len
        have n0 : ¬ H.length = 0 := by omega
        have n1 : ¬ H.length = 1 := by omega
        have n2 : ¬ o = some H.length := fun e => by have := q3 _ e; omega
        rw [hop] at ct1 q1 q2
        simp [hop]
        refine xcall_self (by simp) ct1 ?_
        simp [n0, n1, n2]
        refine xcall_self (by simp) ct2 ?_
        simp [n0, n1, n2]
        refine xcall_self (by simp) (loldest_c T2) ?_
        have e1 := D2.top
        by_cases hL : L' = []
        · subst hL
          rw [liK] at e1
          simp [e1]
          refine xcall_self (by simp) (llist_c T2 (by simp)) ?_
          simp
          refine xcall_of (equal1_any (P := Try.prog) mixed k19 [] [] h2 (by simp)) (by simp) (by simp) ?_
          simp [eqL, e1]
          refine xcall_self (by simp) (llen_c T2) ?_
          simp [q2, e1]
          refine xcall_self (by simp) (lhas_c T2 _) ?_
          simp [q2, e1]
          refine xcall_self (by simp) (rhas_c D2 (by simp) _) ?_
          simp [hw, e1, q2]
          refine ⟨⟨h2, o', c', [], j + 1⟩, ⟨by show j + 1 ≤ l.length; omega, T2, D2, ok', q0⟩, by show l.length - (j + 1) < l.length - j; omega, ?_⟩
          have hlt2 := T2.lt
          simp [Leq, hlt2, leqH_take]
          omega
        · obtain ⟨y, r, rfl⟩ : ∃ y r, L' = y :: r := by
            cases L' with
            | nil => exact absurd rfl hL
            | cons y r => exact ⟨y, r, rfl⟩
          rw [liK] at e1
          simp [e1]
          refine xcall_self (by simp) (llist_c T2 (by omega)) ?_
          simp
          refine xcall_of (equal1_any (P := Try.prog) mixed k19 (y :: r) (y :: r) h2 (by omega)) (by simp) (by simp) ?_
          simp [eqL_beq, e1]
          refine xcall_self (by simp) (llen_c T2) ?_
          simp [q2, e1]
          refine xcall_self (by simp) (lhas_c T2 _) ?_
          simp [q2, e1]
          refine xcall_self (by simp) (rhas_c D2 (by omega) _) ?_
          simp [hw, intC, e1, q2]
          refine ⟨⟨h2, o', c', y :: r, j + 1⟩, ⟨by show j + 1 ≤ l.length; omega, T2, D2, ok', q0⟩, by show l.length - (j + 1) < l.length - j; omega, ?_⟩
          have hlt2 := T2.lt
          simp [Leq, hlt2, leqH_take]
          omega
      by_cases hop1 : l[j].op = 1
      · obtain ⟨h1, h2, o', c', ct1, ct2, T2, D2, q0, q1, q2, q3, q4, q5, q6⟩ := lv_step hat hdoc hout (ldC l[j]) hxl (fun hA => ladd_c hA hok l[j].id) (fun h1 hD => radd_c hD ⟨hm1, hm2⟩ hlen0 l[j].id)
        have ok' := hok.addL l[j].id
        generalize addL m L l[j].id = L' at *
        simp only [ldC] at ct1 q1 q2
        have hlen := ok'.len
        have n0 : ¬ H.length = 0 := by omega
        have n1 : ¬ H.length = 1 := by omega
        have n2 : ¬ o = some H.length := fun e => by have := q3 _ e; omega
        rw [hop1] at ct1 q1 q2
        simp [hop1]
        refine xcall_self (by simp) ct1 ?_
        simp [n0, n1, n2]
        refine xcall_self (by simp) ct2 ?_
        simp [n0, n1, n2]
        refine xcall_self (by simp) (loldest_c T2) ?_
        have e1 := D2.top
        by_cases hL : L' = []
        · subst hL
          rw [liK] at e1
          simp [e1]
          refine xcall_self (by simp) (llist_c T2 (by simp)) ?_
          simp
          refine xcall_of (equal1_any (P := Try.prog) mixed k19 [] [] h2 (by simp)) (by simp) (by simp) ?_
          simp [eqL, e1]
          refine xcall_self (by simp) (llen_c T2) ?_
          simp [q2, e1]
          refine xcall_self (by simp) (lhas_c T2 _) ?_
          simp [q2, e1]
          refine xcall_self (by simp) (rhas_c D2 (by simp) _) ?_
          simp [hw, e1, q2]
          refine ⟨⟨h2, o', c', [], j + 1⟩, ⟨by show j + 1 ≤ l.length; omega, T2, D2, ok', q0⟩, by show l.length - (j + 1) < l.length - j; omega, ?_⟩
          have hlt2 := T2.lt
          simp [Leq, hlt2, leqH_take]
          omega
        · obtain ⟨y, r, rfl⟩ : ∃ y r, L' = y :: r := by
            cases L' with
            | nil => exact absurd rfl hL
            | cons y r => exact ⟨y, r, rfl⟩
          rw [liK] at e1
          simp [e1]
          refine xcall_self (by simp) (llist_c T2 (by omega)) ?_
          simp
          refine xcall_of (equal1_any (P := Try.prog) mixed k19 (y :: r) (y :: r) h2 (by omega)) (by simp) (by simp) ?_
          simp [eqL_beq, e1]
          refine xcall_self (by simp) (llen_c T2) ?_
          simp [q2, e1]
          refine xcall_self (by simp) (lhas_c T2 _) ?_
          simp [q2, e1]
          refine xcall_self (by simp) (rhas_c D2 (by omega) _) ?_
          simp [hw, intC, e1, q2]
          refine ⟨⟨h2, o', c', y :: r, j + 1⟩, ⟨by show j + 1 ≤ l.length; omega, T2, D2, ok', q0⟩, by show l.length - (j + 1) < l.length - j; omega, ?_⟩
          have hlt2 := T2.lt
          simp [Leq, hlt2, leqH_take]
          omega
      by_cases hop2 : l[j].op = 2
      · obtain ⟨h1, h2, o', c', ct1, ct2, T2, D2, q0, q1, q2, q3, q4, q5, q6⟩ := lv_step hat hdoc hout (ldC l[j]) hxl (fun hA => ltouch_c hA hok l[j].id) (fun h1 hD => rtouch_c hD hok.nd (by omega) l[j].id)
        have ok' := hok.touch l[j].id
        generalize touchL L l[j].id = L' at *
        simp only [ldC] at ct1 q1 q2
        have hlen := ok'.len
        have n0 : ¬ H.length = 0 := by omega
        have n1 : ¬ H.length = 1 := by omega
        have n2 : ¬ o = some H.length := fun e => by have := q3 _ e; omega
        rw [hop2] at ct1 q1 q2
        simp [hop2]
        refine xcall_self (by simp) ct1 ?_
        simp [n0, n1, n2]
        refine xcall_self (by simp) ct2 ?_
        simp [n0, n1, n2]
        refine xcall_self (by simp) (loldest_c T2) ?_
        have e1 := D2.top
        by_cases hL : L' = []
        · subst hL
          rw [liK] at e1
          simp [e1]
          refine xcall_self (by simp) (llist_c T2 (by simp)) ?_
          simp
          refine xcall_of (equal1_any (P := Try.prog) mixed k19 [] [] h2 (by simp)) (by simp) (by simp) ?_
          simp [eqL, e1]
          refine xcall_self (by simp) (llen_c T2) ?_
          simp [q2, e1]
          refine xcall_self (by simp) (lhas_c T2 _) ?_
          simp [q2, e1]
          refine xcall_self (by simp) (rhas_c D2 (by simp) _) ?_
          simp [hw, e1, q2]
          refine ⟨⟨h2, o', c', [], j + 1⟩, ⟨by show j + 1 ≤ l.length; omega, T2, D2, ok', q0⟩, by show l.length - (j + 1) < l.length - j; omega, ?_⟩
          have hlt2 := T2.lt
          simp [Leq, hlt2, leqH_take]
          omega
        · obtain ⟨y, r, rfl⟩ : ∃ y r, L' = y :: r := by
            cases L' with
            | nil => exact absurd rfl hL
            | cons y r => exact ⟨y, r, rfl⟩
          rw [liK] at e1
          simp [e1]
          refine xcall_self (by simp) (llist_c T2 (by omega)) ?_
          simp
          refine xcall_of (equal1_any (P := Try.prog) mixed k19 (y :: r) (y :: r) h2 (by omega)) (by simp) (by simp) ?_
          simp [eqL_beq, e1]
          refine xcall_self (by simp) (llen_c T2) ?_
          simp [q2, e1]
          refine xcall_self (by simp) (lhas_c T2 _) ?_
          simp [q2, e1]
          refine xcall_self (by simp) (rhas_c D2 (by omega) _) ?_
          simp [hw, intC, e1, q2]
          refine ⟨⟨h2, o', c', y :: r, j + 1⟩, ⟨by show j + 1 ≤ l.length; omega, T2, D2, ok', q0⟩, by show l.length - (j + 1) < l.length - j; omega, ?_⟩
          have hlt2 := T2.lt
          simp [Leq, hlt2, leqH_take]
          omega
      have hop3 : True := trivial
      · obtain ⟨h1, h2, o', c', ct1, ct2, T2, D2, q0, q1, q2, q3, q4, q5, q6⟩ := lv_step hat hdoc hout (ldC l[j]) hxl (fun hA => lremove_c hA hok l[j].id) (fun h1 hD => rremove_c hD (by omega) l[j].id)
        have ok' := hok.rem l[j].id
        generalize remI L l[j].id = L' at *
        simp only [ldC] at ct1 q1 q2
        have hlen := ok'.len
        have n0 : ¬ H.length = 0 := by omega
        have n1 : ¬ H.length = 1 := by omega
        have n2 : ¬ o = some H.length := fun e => by have := q3 _ e; omega
        simp [hop, hop1, hop2]
        refine xcall_self (by simp) ct1 ?_
        simp [n0, n1, n2]
        refine xcall_self (by simp) ct2 ?_
        simp [n0, n1, n2]
        refine xcall_self (by simp) (loldest_c T2) ?_
        have e1 := D2.top
        by_cases hL : L' = []
        · subst hL
          rw [liK] at e1
          simp [e1]
          refine xcall_self (by simp) (llist_c T2 (by simp)) ?_
          simp
          refine xcall_of (equal1_any (P := Try.prog) mixed k19 [] [] h2 (by simp)) (by simp) (by simp) ?_
          simp [eqL, e1]
          refine xcall_self (by simp) (llen_c T2) ?_
          simp [q2, e1]
          refine xcall_self (by simp) (lhas_c T2 _) ?_
          simp [q2, e1]
          refine xcall_self (by simp) (rhas_c D2 (by simp) _) ?_
          simp [hw, e1, q2]
          refine ⟨⟨h2, o', c', [], j + 1⟩, ⟨by show j + 1 ≤ l.length; omega, T2, D2, ok', q0⟩, by show l.length - (j + 1) < l.length - j; omega, ?_⟩
          have hlt2 := T2.lt
          simp [Leq, hlt2, leqH_take]
          omega
        · obtain ⟨y, r, rfl⟩ : ∃ y r, L' = y :: r := by
            cases L' with
            | nil => exact absurd rfl hL
            | cons y r => exact ⟨y, r, rfl⟩
          rw [liK] at e1
          simp [e1]
          refine xcall_self (by simp) (llist_c T2 (by omega)) ?_
          simp
          refine xcall_of (equal1_any (P := Try.prog) mixed k19 (y :: r) (y :: r) h2 (by omega)) (by simp) (by simp) ?_
          simp [eqL_beq, e1]
          refine xcall_self (by simp) (llen_c T2) ?_
          simp [q2, e1]
          refine xcall_self (by simp) (lhas_c T2 _) ?_
          simp [q2, e1]
          refine xcall_self (by simp) (rhas_c D2 (by omega) _) ?_
          simp [hw, intC, e1, q2]
          refine ⟨⟨h2, o', c', y :: r, j + 1⟩, ⟨by show j + 1 ≤ l.length; omega, T2, D2, ok', q0⟩, by show l.length - (j + 1) < l.length - j; omega, ?_⟩
          have hlt2 := T2.lt
          simp [Leq, hlt2, leqH_take]
          omega
    · have : j = l.length := by omega
      subst this
      simp
      refine xcall_self (by simp) (lawake_c _) ?_
      simp
      done
theorem llives_l (most : Int) (l : List Ld) (hl : l.length ≤ maxLen ∧ ∀ x ∈ l, OkLd x) : Contract Try.prog 3 [.v (.int .i64 most), .sl 2 (enc ldC l) none .no] [] (.v (.bool true)) [] [] := llives_c most l
end Go.Proofs.Ytabfaambilbpeaa.Ax
namespace Go.Proofs.Ytabfaambilbpeaa.lruLives
open Go.ChangeShapes Go.WideShapes Go.ChangeAt Go.RowKit
open Go.ChangeMaps (open_string shut_string)
set_option linter.unusedVariables false

theorem own : ownKnob Try.prog.godebug = none := by kernel_rfl
theorem laidOut : laidOutB Try.prog = true := by kernel_rfl

set_option maxRecDepth 100000 in
theorem lifted (os : Os) (started : os.Started) (H : Type) (enc : TypeId × Value → H) :
    ReturnsInHanded {} Try.checked os 3 .any (Rows.lruLivesSpec.pre6 enc Try.prog Try.f3 Rows.lruLivesRow.domain false) (Rows.lruLivesSpec.post enc Try.prog Try.f3 false true false false) := by
  refine returnsInHanded_of_change (C := Try.checked) own started (by kernel_rfl) Try.func3
    (ChangeSpec.witness6 (enc := enc) (C := Try.checked) false ⟨#[], #[.int .i64 0, .slice none 0 0], []⟩ 8 (by kernel_rfl) (by kernel_rfl) (by kernel_rfl) (by kernel_rfl)) ?_
  intro W base args ds gs before hval0 hW hcnd _
  have hval : ∀ (j : Nat) t v, Try.f3.params[j]? = some t → args[j]? = some v → Value.okWide Try.prog W .any base t v := hval0
  have hW' := hW
  obtain ⟨p, q, hA0, hV, rfl, hfz, hnd⟩ := hW
  have hA : DataW.TrodAll enc Try.prog W 0 (fun _ => true) true Try.f3.params.toList args.toList ds p := hA0
  rw [Try.params3] at hA hval
  obtain ⟨v0, vs0, d0, ds0, p0, q0, hargs, rfl, rfl, h0, r0⟩ := trodAll_cons hA
  obtain ⟨v1, vs1, d1, ds1, p1, q1, rfl, rfl, rfl, h1, r1⟩ := trodAll_cons r0
  obtain ⟨rfl, rfl, rfl⟩ := trodAll_nil r1
  obtain rfl : args = #[v0, v1] := by cases args; simp_all
  obtain ⟨rfl, rfl⟩ := trodVars_none hV
  have k0 := h0
  have lt0 : ∀ x ∈ p0, x.block < W.heap.size := by obtain ⟨m, hm⟩ := k0; exact DataW.trod_lt m _ _ _ hm
  obtain ⟨a0, ok0, s0⟩ := Ax.arg_int Try.underlying3 (hval 0 3 v0 rfl rfl) h0
  have k1 := h1
  have lt1 : ∀ x ∈ p1, x.block < W.heap.size := by obtain ⟨m, hm⟩ := k1; exact DataW.trod_lt m _ _ _ hm
  obtain ⟨a1, ok1, s1⟩ := Ax.arg_slice Try.underlying22 Ax.sh_ldCL (hval 1 22 v1 rfl rfl) h1
  clear hA0 hval0
  refine (Ax.law_walk (w := W) (Ax.dom_any W) (Ax.llives_l a0 a1 ok1) (by simp) (.cons s0 (.cons s1 .nil))).mono fun e W' ⟨he, bel⟩ => ?_
  subst he
  exact ⟨_, rfl, _, _, _, [], _, [], hW', trodAll_mk1 (shut_bool Try.underlying4 _), (trodAll_cons_mk (Below.trod laidOut (by kernel_rfl) (of_decide_eq_true (by kernel_rfl)) k0 bel lt0) (trodAll_cons_mk (Below.trod laidOut (by kernel_rfl) (of_decide_eq_true (by kernel_rfl)) k1 bel lt1) trodAll_mk0)), rfl, bel.frame _, fun h => by cases h⟩

theorem over : Rows.lruLivesRow.holds Try.pinned (OpenSpec.ofChange Rows.lruLivesSpec) :=
  OpenClaim.holds_of_wide 3 Try.f3 rfl rfl rfl rfl rfl rfl rfl ⟨rfl, rfl, rfl, rfl, rfl⟩ rfl rfl rfl rfl rfl (by kernel_rfl) Try.func3 (by kernel_rfl)
    (of_decide_eq_true (by kernel_rfl)) (by unfold Func.isWrapper; first | (rw [if_pos (by decide +kernel)]; kernel_rfl) | (rw [if_neg (by decide +kernel)]; exact ⟨rfl, rfl⟩))
    (fun os started H enc _ => lifted os started H enc)

theorem proved : Rows.LruLivesSaid := over
#print axioms proved
end Go.Proofs.Ytabfaambilbpeaa.lruLives
