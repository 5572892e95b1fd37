/- Layer 27's statements: the document's engine goes on; the same rows; awake. -/
import Derived.Test.YtmdapcmdlblnnaaDoorQAxMs
import Derived.Test.YtmdapcmdlblnnaaDoorQAxDg
import Derived.Test.YtmdapcmdlblnnaaDoorQAxSx
import Derived.Test.YtmdapcmdlblnnaaDoorQAxGc
/- The document's answers: the same numbers, the same cells. -/
namespace Go.Proofs.YtmdapcmdlblnnaaDoor.Ax
open Go.RowKit Go By
set_option linter.unusedSimpArgs false
set_option linter.unusedVariables false
set_option maxRecDepth 10000

theorem rcells_c (xs ys : List Cl) (hl : xs.length ≤ 140737488355328) (h : List (List AV)) : Contract Tryd.prog 26 [.sl 2 (enc cellC xs) none .no, .sl 2 (enc cellC ys) none .no] h (.v (.bool (xs == ys))) h [] := by
  refine contract_of k26 mixed (by simp [c26]) fun hh hargs => ?_
  rw [← eqL_beq]
  by_cases hlen : xs.length = ys.length
  · simp [c26, hlen]
    refine xloop_ok (D := Nat) (fun j => ⟨[(0, .sl 2 (enc cellC xs) none .no), (1, .sl 2 (enc cellC ys) none .no), (5, .v (.int .i64 j))], [], h, []⟩) (fun j => j ≤ xs.length ∧ ∀ i (h1 : i < xs.length) (h2 : i < ys.length), i < j → ((· == ·) : Cl → Cl → Bool) xs[i] ys[i] = true) (fun j => xs.length - j) 0 ⟨by omega, fun i h1 h2 h3 => by omega⟩ ?_ ?_
    · simp [Leq, hh]
    · rintro j ⟨hj, hp⟩
      by_cases hlt : j < ys.length
      · have hlt' : j < xs.length := by omega
        have hw : IntKind.i64.wrap ((j : Int) + 1) = (j : Int) + 1 := wrap64 (by omega) (by omega)
        obtain ⟨n, b, hx⟩ : ∃ n b, xs[j] = (n, b) := ⟨_, _, rfl⟩
        obtain ⟨m, d, hy⟩ : ∃ m d, ys[j] = (m, d) := ⟨_, _, rfl⟩
        have next : xs[j] = ys[j] → ∀ i (h1 : i < xs.length) (h2 : i < ys.length), i < j + 1 → ((· == ·) : Cl → Cl → Bool) xs[i] ys[i] = true := fun he i h1 h2 h3 => by
          rcases Nat.lt_or_ge i j with h4 | h4
          · exact hp i h1 h2 h4
          · have : i = j := by omega
            subst this; simp [he]
        have no : xs[j] ≠ ys[j] → eqL (· == ·) xs ys = false := fun he => eqL_no (i := j) hlt' hlt (by simpa using he)
        rw [hx, hy] at next no
        cases hnm : n == m with
        | false =>
          have e := no (by rintro he; injection he with h1 h2; simp [h1] at hnm)
          simp [hlt, hlt', hx, hy, cellC_mk, hnm, hh, e]
        | true =>
          have hnm' : n = m := by simpa using hnm
          cases hbd : b == d with
          | false =>
            have e := no (by rintro he; injection he with h1 h2; simp [h2] at hbd)
            simp [hlt, hlt', hx, hy, cellC_mk, hnm, hbd, hh, e]
          | true =>
            have hbd' : b = d := by simpa using hbd
            have e := next (by rw [hnm', hbd'])
            simp [hlt, hlt', hx, hy, cellC_mk, hnm, hbd, hw]
            refine ⟨j + 1, ⟨by omega, fun i h1 h2 h3 => by simpa using e i h1 h2 h3⟩, by omega, ?_⟩
            simp [Leq, hh]
      · have hx : eqL (· == ·) xs ys = true := (eqL_iff _ xs ys).2 ⟨hlen, fun i h1 h2 => hp i h1 h2 (by omega)⟩
        have hlt' : ¬ j < xs.length := by omega
        simp [hh, hx, hlt, hlt']
  · have hne : (xs.length : Int) ≠ ys.length := by omega
    have hx : eqL (· == ·) xs ys = false := eqL_len hlen
    simp [c26, hne, hh, hx]
end Go.Proofs.YtmdapcmdlblnnaaDoor.Ax
namespace Go.Proofs.YtmdapcmdlblnnaaDoor.Ax
open Go.RowKit Go By Dg
set_option linter.unusedSimpArgs false
set_option linter.unusedVariables false
set_option maxRecDepth 10000

section
variable {h : List (List AV)} {i : Nat} {L : List (List UInt8)} {n : Nat}
theorem reverdict_c (ht : h[i]? = some (edC i L n)) (hl : L.length ≤ 1000000) (s : List UInt8) (hs : s.length ≤ 9223372036854775807) (st : Int) : Contract Tryd.prog 16 [.box i 0, .v (.string (strB s)), .v (.int .u8 st)] h (vdV (verdict (L.contains s) (sayQ (trimL s)) st)) h [] := by
  have hi := (List.getElem?_eq_some_iff.1 ht).1
  obtain ⟨c, hc⟩ : ∃ c, c = L.contains s := ⟨_, rfl⟩
  rw [← hc]
  refine contract_of k16 mixed (by simp [c16]) fun hh hargs => ?_
  simp [c16]
  refine xcall_self (by simp) (rsay_c s hs _) ?_
  generalize sayQ (trimL s) = v
  have hr := rerefuses_c (h := h ++ [vbC v]) (by rw [List.getElem?_append_left hi]; exact ht) hl s
  rw [← hc] at hr
  unfold verdict
  by_cases k0 : v.kind = 0
  · simp [k0, hh, vdV, synC, synT, leqH_take]
  have k0' : (v.kind == 0) = false := by simpa using k0
  by_cases s69 : st = 69
  · simp [k0, k0', s69]
    refine xcall_self (by simp) (rexit_c v _) ?_
    by_cases k34 : v.kind = 3 ∨ v.kind = 4
    · simp [k34]
      refine xcall_self (by simp) hr ?_
      cases c with
      | true =>
        have k1 : ¬ v.kind = 1 := by omega
        have k1' : (v.kind != 1) = true := by simpa using k1
        simp [k1, k1']
        refine xcall_self (by simp) (rexit_c v _) ?_
        simp [k34, hh, vdV, leqH_take]
      | false => simp [hh, vdV, leqH_take]
    · simp [k34]
      refine xcall_self (by simp) (eraborted_c _) ?_
      simp [hh, vdV, abC, leqH_take]
  have s69' : (st == 69) = false := by simpa using s69
  simp [k0, k0', s69, s69']
  refine xcall_self (by simp) hr ?_
  cases c with
  | false =>
    by_cases k1 : v.kind = 1 <;> by_cases k34 : v.kind = 3 ∨ v.kind = 4 <;> simp [k1, k34, hh, vdV, leqH_take]
  | true =>
    by_cases k1 : v.kind = 1
    · simp [k1, hh, vdV, leqH_take]
    have k1' : (v.kind != 1) = true := by simpa using k1
    simp [k1, k1']
    refine xcall_self (by simp) (rexit_c v _) ?_
    by_cases k34 : v.kind = 3 ∨ v.kind = 4
    · simp [k34, hh, vdV, leqH_take]
    · simp [k34, hh, vdV, relC, relT, leqH_take]
theorem renext_c (ht : h[i]? = some (edC i L n)) (hn : n ≤ 1000000) : Contract Tryd.prog 11 [.box i 0] h (.v (.int .i64 ((n : Int) + 1))) (h.set i (edC i L (n + 1))) [i] := by
  have hi := (List.getElem?_eq_some_iff.1 ht).1
  have hw : IntKind.i64.wrap ((n : Int) + 1) = (n : Int) + 1 := wrap64 (by omega) (by omega)
  have he : ∀ q : i < h.length, h[i] = edC i L n := fun q => by rw [List.getElem?_eq_getElem q] at ht; injection ht
  refine contract_of k11 mixed (by simp [c11]) fun hh hargs => ?_
  simp [c11, hi, he, edC, hw, hh, ltLL_set]
theorem rerows_c (ht : h[i]? = some (edC i L n)) (hn : n ≤ 1000000) (v : Vb) (ps : List Cl) (hl : ps.length ≤ 1000000) : Contract Tryd.prog 14 [.box i 0, .agg (vbC v), .sl 2 (enc cellC ps) none .no] h (.sl 1 (enc rowKC (rowsV v n ps)) none .no) (h.set i (edC i L (nextV v n))) [i] := by
  have hi := (List.getElem?_eq_some_iff.1 ht).1
  have he : ∀ q : i < h.length, h[i] = edC i L n := fun q => by rw [List.getElem?_eq_getElem q] at ht; injection ht
  have hset : h.set i (edC i L n) = h := by rw [← he hi, List.set_getElem_self]
  refine contract_of k14 mixed (by simp [c14]) fun hh hargs => ?_
  simp [c14]
  unfold rowsV nextV
  by_cases k5 : v.kind = 5
  · simp [k5]
    refine xcall_self (by simp) (rkrows_c v.n _) ?_
    simp [hset, hh, leqH_take]
  have k5' : (v.kind == 5) = false := by simpa using k5
  by_cases k6 : v.kind = 6
  · simp [k6]
    refine xappendN_own ?_
    simp [hset, hh, leqH_take, rowKC_mk]
    omega
  have k6' : (v.kind == 6) = false := by simpa using k6
  by_cases k7 : v.kind = 7
  · have ht3 := renext_c (h := h ++ [vbC v]) (by rw [List.getElem?_append_left hi]; exact ht) hn
    have e : (h ++ [vbC v]).set i (edC i L (n + 1)) = h.set i (edC i L (n + 1)) ++ [vbC v] := by rw [List.set_append_left _ _ hi]
    rw [e] at ht3
    have hlen := dtext_len ((n : Int) + 1) (by omega) (by omega)
    have hlt := ltLL_set (i := i) hh (edC_lt h.length i L (n + 1))
    simp [k7]
    refine xcall_self (by simp) ht3 ?_
    simp
    refine xcall_self (by simp) (drtext_c ((n : Int) + 1) (by omega) (by omega) _) ?_
    simp [hh, leqH_take, rowKC_mk, cellC, hlt]
    omega
  have k7' : (v.kind == 7) = false := by simpa using k7
  simp [k5, k6, k7, k5', k6', k7', hset, hh, leqH_take]
end
theorem lrows_c (a : List (List Cl)) (ha : a.length ≤ 1000000) (hc : ∀ r ∈ a, r.length ≤ 140737488355328) (h : List (List AV)) : Contract Tryd.prog 12 [.sl 1 (enc rowKC a) none .no, .sl 1 (enc rowKC a) none .no] h (.v (.bool true)) h [] := by
  refine contract_of k12 mixed (by simp [c12]) fun hh hargs => ?_
  simp [c12]
  refine xloop_ok (D := Nat) (fun j => ⟨[(0, .sl 1 (enc rowKC a) none .no), (1, .sl 1 (enc rowKC a) none .no), (12, .v (.int .i64 (a.length : Int))), (13, .v (.int .i64 (j : Int)))], [], h, []⟩) (fun j => j ≤ a.length) (fun j => a.length - j) 0 (by simp) ?_ ?_
  · simp [Leq, hh]
    done
  · intro j hj
    by_cases hlt : j < a.length
    · have hw : IntKind.i64.wrap ((j : Int) + 1) = (j : Int) + 1 := wrap64 (by omega) (by omega)
      simp [hlt, rowKC_mk]
      refine xcall_self (by simp) (rcells_c a[j] a[j] (hc _ (List.getElem_mem hlt)) _) ?_
      simp [hw]
      refine ⟨j + 1, by omega, by omega, ?_⟩
      simp [Leq, hh]
      done
    · simp [hlt, hh]
      done
theorem eawake_c (h : List (List AV)) : Contract Tryd.prog 20 [] h (.v (.bool true)) h [] := by
  refine contract_of k20 mixed (by simp [c20]) fun hh hargs => ?_
  have t0 : EgAt (h ++ [mapC 0 [], egC h.length 0]) (h.length + 1) (newE h.length) := ⟨by rw [List.getElem?_append_right (by omega)]; simp [newE], by rw [List.getElem?_append_right (by simp [newE])]; simp [newE, Eg.cells], by simp [newE]⟩
  have hv1 := everdict_c t0 [110, 111, 110, 115, 101, 110, 115, 101] (by simp) 73
  have hv2 := everdict_c t0 [98, 101, 103, 105, 110] (by simp) 69
  have e1 : verdict ((newE h.length).no [110, 111, 110, 115, 101, 110, 115, 101]) (sayQ (trimL [110, 111, 110, 115, 101, 110, 115, 101])) 73 = ⟨synC, synT, true⟩ := by
    have : (sayQ (trimL [110, 111, 110, 115, 101, 110, 115, 101])).kind = 0 := by decide +kernel
    unfold verdict; rw [if_pos this]
  have e2 : verdict ((newE h.length).no [98, 101, 103, 105, 110]) (sayQ (trimL [98, 101, 103, 105, 110])) 69 = ⟨abC, abT, true⟩ := by
    have : (sayQ (trimL [98, 101, 103, 105, 110])).kind = 2 := by decide +kernel
    unfold verdict; rw [this]; rfl
  rw [e1] at hv1
  rw [e2] at hv2
  have hn := enext_c t0 (by simp [newE])
  have e3 : (h ++ [mapC 0 [], egC h.length 0]).set (h.length + 1) (egC (newE h.length).a ((newE h.length).n + 1)) = h ++ [mapC 0 [], egC h.length 1] := by
    rw [List.set_append_right _ _ (by omega)]; simp [newE]
  rw [e3] at hn
  have t1 : EgAt (h ++ [mapC 0 [], egC h.length 1]) (h.length + 1) { newE h.length with n := 1 } := ⟨by rw [List.getElem?_append_right (by omega)]; simp [newE], by rw [List.getElem?_append_right (by simp [newE])]; simp [newE, Eg.cells], by simp [newE]⟩
  have hc := ecount_c t1
  simp [c20]
  refine xcall_self (by simp) (enew_c _) ?_
  simp
  refine xcall_self (by simp) hv1 ?_
  simp [vdV]
  refine xcall_self (by simp) hv2 ?_
  simp [vdV, synC]
  refine xcall_self (by simp) (eaborted_c _) ?_
  simp
  refine xcall_self (by simp) hn ?_
  simp [newE]
  refine xcall_self (by simp) hc ?_
  simp [hh, leqH_take]
end Go.Proofs.YtmdapcmdlblnnaaDoor.Ax
