/- slices.Equal of numbers that lie in variables, over values without memory. -/
import Derived.Test.YtkcampfbpmjacaaQAxDf
namespace Go.Proofs.Ytkcampfbpmjacaa.Ax
open Go.RowKit Go By
set_option linter.unusedSimpArgs false
set_option linter.unusedVariables false
set_option maxRecDepth 10000

theorem row_at {c xs : List Int} (he : c.take xs.length = xs) {j : Nat} (hj : j < xs.length) : (intsA c)[j]? = some (.v (.int .i64 xs[j])) := by
  have h1 : (c.take xs.length)[j]? = some xs[j] := by rw [he, List.getElem?_eq_getElem hj]
  rw [List.getElem?_take_of_lt hj] at h1
  unfold intsA
  rw [List.getElem?_map, h1]; rfl
section
variable {h : List (List AV)} {xs ys : List Int}
theorem equal_bs {b : Nat} {c : List Int} (hb : h[b]? = some (intsA c)) (hc : c.take xs.length = xs) (hl : xs.length ≤ 1000000) : Contract Try.prog 22 [.bsl b 0 1 xs.length, .sl 1 (enc intC ys) none .no] h (.v (.bool (xs == ys))) h [] := by
  have hxl : xs.length ≤ 140737488355328 := by omega
  refine contract_of k22 mixed (by simp [c22]) fun hh hargs => ?_
  simp at hargs
  rw [← eqL_beq]
  by_cases hlen : xs.length = ys.length
  · simp [c22, hlen]
    refine xloop_ok (D := Nat) (fun j => ⟨[(0, .bsl b 0 1 xs.length), (1, .sl 1 (enc intC ys) none .no), (12, .v (.int .i64 (ys.length : Int))), (13, .v (.int .i64 (j : Int)))], [], h, []⟩) (fun j => j ≤ xs.length ∧ ∀ i (h1 : i < xs.length) (h2 : i < ys.length), i < j → ((· == ·) : Int → Int → Bool) xs[i] ys[i] = true) (fun j => xs.length - j) 0 ⟨by omega, fun i h1 h2 h3 => by omega⟩ ?_ ?_
    · simp [Leq, hh, hargs, hlen, leqH_take]
      done
    · rintro j ⟨hj, hp⟩
      by_cases hlt : j < ys.length
      · have hlt' : j < xs.length := by omega
        have hw : IntKind.i64.wrap ((j : Int) + 1) = (j : Int) + 1 := wrap64 (by omega) (by omega)
        have g := row_at hc hlt'
        simp [hlt, hlt', intC, hb, g]
        by_cases ht : xs[j] = ys[j]
        · simp [ht, hw]
          refine ⟨j + 1, ⟨by omega, fun i h1 h2 h3 => ?_⟩, by omega, ?_⟩
          · rcases Nat.lt_or_ge i j with h4 | h4
            · simpa using hp i h1 h2 h4
            · have : i = j := by omega
              subst this; simpa using ht
          · simp [Leq, hh, hargs, hlen, leqH_take]
            done
        · have : eqL (· == ·) xs ys = false := eqL_no (i := j) hlt' hlt (by simpa using ht)
          simp [hh, this, ht]
          done
      · have hx : eqL (· == ·) xs ys = true := (eqL_iff _ xs ys).2 ⟨hlen, fun i h1 h2 => hp i h1 h2 (by omega)⟩
        simp [hlt, hh, hx]
        done
  · have hne : (xs.length : Int) ≠ ys.length := by omega
    have hx : eqL (· == ·) xs ys = false := eqL_len hlen
    simp [c22, hne, hh, hx, hlen]
    done
theorem equal_sb {b : Nat} {c : List Int} (hb : h[b]? = some (intsA c)) (hc : c.take ys.length = ys) (hl : xs.length ≤ 1000000) : Contract Try.prog 22 [.sl 1 (enc intC xs) none .no, .bsl b 0 1 ys.length] h (.v (.bool (xs == ys))) h [] := by
  have hxl : xs.length ≤ 140737488355328 := by omega
  refine contract_of k22 mixed (by simp [c22]) fun hh hargs => ?_
  simp at hargs
  rw [← eqL_beq]
  by_cases hlen : xs.length = ys.length
  · simp [c22, hlen]
    refine xloop_ok (D := Nat) (fun j => ⟨[(0, .sl 1 (enc intC xs) none .no), (1, .bsl b 0 1 ys.length), (12, .v (.int .i64 (ys.length : Int))), (13, .v (.int .i64 (j : Int)))], [], h, []⟩) (fun j => j ≤ xs.length ∧ ∀ i (h1 : i < xs.length) (h2 : i < ys.length), i < j → ((· == ·) : Int → Int → Bool) xs[i] ys[i] = true) (fun j => xs.length - j) 0 ⟨by omega, fun i h1 h2 h3 => by omega⟩ ?_ ?_
    · simp [Leq, hh, hargs, hlen, leqH_take]
      done
    · rintro j ⟨hj, hp⟩
      by_cases hlt : j < ys.length
      · have hlt' : j < xs.length := by omega
        have hw : IntKind.i64.wrap ((j : Int) + 1) = (j : Int) + 1 := wrap64 (by omega) (by omega)
        have g := row_at hc hlt
        simp [hlt, hlt', intC, hb, g]
        by_cases ht : xs[j] = ys[j]
        · simp [ht, hw]
          refine ⟨j + 1, ⟨by omega, fun i h1 h2 h3 => ?_⟩, by omega, ?_⟩
          · rcases Nat.lt_or_ge i j with h4 | h4
            · simpa using hp i h1 h2 h4
            · have : i = j := by omega
              subst this; simpa using ht
          · simp [Leq, hh, hargs, hlen, leqH_take]
            done
        · have : eqL (· == ·) xs ys = false := eqL_no (i := j) hlt' hlt (by simpa using ht)
          simp [hh, this, ht]
          done
      · have hx : eqL (· == ·) xs ys = true := (eqL_iff _ xs ys).2 ⟨hlen, fun i h1 h2 => hp i h1 h2 (by omega)⟩
        simp [hlt, hh, hx]
        done
  · have hne : (xs.length : Int) ≠ ys.length := by omega
    have hx : eqL (· == ·) xs ys = false := eqL_len hlen
    simp [c22, hne, hh, hx, hlen]
    done
theorem equal_bb {b b2 : Nat} {c c2 : List Int} (hb : h[b]? = some (intsA c)) (hc : c.take xs.length = xs) (hb2 : h[b2]? = some (intsA c2)) (hc2 : c2.take ys.length = ys) (hl : xs.length ≤ 1000000) : Contract Try.prog 22 [.bsl b 0 1 xs.length, .bsl b2 0 1 ys.length] h (.v (.bool (xs == ys))) h [] := by
  have hxl : xs.length ≤ 140737488355328 := by omega
  refine contract_of k22 mixed (by simp [c22]) fun hh hargs => ?_
  simp at hargs
  rw [← eqL_beq]
  by_cases hlen : xs.length = ys.length
  · simp [c22, hlen]
    refine xloop_ok (D := Nat) (fun j => ⟨[(0, .bsl b 0 1 xs.length), (1, .bsl b2 0 1 ys.length), (12, .v (.int .i64 (ys.length : Int))), (13, .v (.int .i64 (j : Int)))], [], h, []⟩) (fun j => j ≤ xs.length ∧ ∀ i (h1 : i < xs.length) (h2 : i < ys.length), i < j → ((· == ·) : Int → Int → Bool) xs[i] ys[i] = true) (fun j => xs.length - j) 0 ⟨by omega, fun i h1 h2 h3 => by omega⟩ ?_ ?_
    · simp [Leq, hh, hargs, hlen, leqH_take]
      done
    · rintro j ⟨hj, hp⟩
      by_cases hlt : j < ys.length
      · have hlt' : j < xs.length := by omega
        have hw : IntKind.i64.wrap ((j : Int) + 1) = (j : Int) + 1 := wrap64 (by omega) (by omega)
        have g := row_at hc hlt'
        have g2 := row_at hc2 hlt
        simp [hlt, hlt', intC, hb, g, hb2, g2]
        by_cases ht : xs[j] = ys[j]
        · simp [ht, hw]
          refine ⟨j + 1, ⟨by omega, fun i h1 h2 h3 => ?_⟩, by omega, ?_⟩
          · rcases Nat.lt_or_ge i j with h4 | h4
            · simpa using hp i h1 h2 h4
            · have : i = j := by omega
              subst this; simpa using ht
          · simp [Leq, hh, hargs, hlen, leqH_take]
            done
        · have : eqL (· == ·) xs ys = false := eqL_no (i := j) hlt' hlt (by simpa using ht)
          simp [hh, this, ht]
          done
      · have hx : eqL (· == ·) xs ys = true := (eqL_iff _ xs ys).2 ⟨hlen, fun i h1 h2 => hp i h1 h2 (by omega)⟩
        simp [hlt, hh, hx]
        done
  · have hne : (xs.length : Int) ≠ ys.length := by omega
    have hx : eqL (· == ·) xs ys = false := eqL_len hlen
    simp [c22, hne, hh, hx, hlen]
    done
end
end Go.Proofs.Ytkcampfbpmjacaa.Ax
