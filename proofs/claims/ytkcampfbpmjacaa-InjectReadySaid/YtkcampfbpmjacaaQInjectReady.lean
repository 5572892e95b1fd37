/- of any list that there is, at most two are told, which are hidden and may be said if the text may, and then the statement is there, and there are not more than may be -/
import Derived.Test.YtkcampfbpmjacaaQAxDf
import Derived.Test.YtkcampfbpmjacaaQAxVg
import Derived.Test.YtkcampfbpmjacaaQAxJd
import Derived.Test.YtkcampfbpmjacaaRows
import Derived.Test.YtkcampfbpmjacaaQElems
import Derived.Test.YtkcampfbpmjacaaQAxX
import Derived.Test.YtkcampfbpmjacaaQAxTz
import Derived.WalkKit
import Derived.ProofKit
import Derived.OpenShut
import Derived.ShutString
import Derived.ChangeOld
import Derived.Below
/- A few numbers, by when they were used last, over values without memory: the document's list. -/
namespace Go.Proofs.Ytkcampfbpmjacaa.Ax
open Go.RowKit Go By
set_option linter.unusedSimpArgs false
set_option linter.unusedVariables false
set_option maxRecDepth 10000

/-- The numbers in a variable's first cell: nil, or a row whose room is that cell's. -/
def liK (i : Nat) : List Int → AV
  | [] => .sl 0 [] (some true) .exact
  | x :: r => .sl 1 (enc intC (x :: r)) none (.own (.cell i 0))
theorem liK_some {i : Nat} {L : List Int} (h : L ≠ []) : liK i L = .sl 1 (enc intC L) none (.own (.cell i 0)) := by cases L with | nil => exact absurd rfl h | cons _ _ => rfl
@[simp] theorem liK_lt (i n : Nat) (l : List Int) : (liK i l).lt n := by cases l <;> simp [liK, intC]
structure RlAt (h : List (List AV)) (i most : Nat) (L : List Int) : Prop where
  top : h[i]? = some [liK i L, .v (.int .i64 (most : Int))]
def rlH (h : List (List AV)) (i most : Nat) (L : List Int) : List (List AV) := h.set i [liK i L, .v (.int .i64 (most : Int))]
section
variable {h : List (List AV)} {i most : Nat} {L : List Int}
theorem RlAt.i_lt (ht : RlAt h i most L) : i < h.length := (List.getElem?_eq_some_iff.1 ht.top).1
theorem RlAt.put (hi : i < h.length) (most : Nat) (L' : List Int) : RlAt (rlH h i most L') i most L' := ⟨by unfold rlH; rw [List.getElem?_set_self hi]⟩
theorem has_take {x : Int} {j : Nat} (hj : j < L.length) (h1 : x ∉ L.take j) (h2 : L[j] ≠ x) : x ∉ L.take (j + 1) := by
  rw [take_next hj]
  intro h
  rcases List.mem_append.1 h with h | h
  · exact h1 h
  · simp at h; exact h2 h.symm
theorem remI_snoc (l : List Int) (x y : Int) : remI (l ++ [y]) x = if y = x then remI l x else remI l x ++ [y] := by
  unfold remI
  rw [List.filter_append]
  by_cases e : y = x
  · simp [e]
  · simp [e]
/-- What is built. -/
def outS (h : List (List AV)) (i : Nat) (x : Int) (j : Nat) : List Int → St
  | [] => ⟨[(0, .box i 0), (1, .v (.int .i64 x)), (5, .sl 0 [] (some true) .exact), (6, .v (.int .i64 (j : Int)))], [], h, []⟩
  | y :: r => ⟨[(0, .box i 0), (1, .v (.int .i64 x)), (6, .v (.int .i64 (j : Int)))], [(5, .sl 1 (enc intC (y :: r)) none (.own (.slot 5)))], h, []⟩
end
end Go.Proofs.Ytkcampfbpmjacaa.Ax
/- Which statements a server has, over values without memory: the document's answer. -/
namespace Go.Proofs.Ytkcampfbpmjacaa.Ax
open Go.RowKit Go By
set_option linter.unusedSimpArgs false
set_option linter.unusedVariables false
set_option maxRecDepth 10000

section
variable {h : List (List AV)} {L : List Int}
theorem dhas_c (hl : L.length ≤ 1000000) (x : Int) : Contract Try.prog 37 [.sl 1 (enc intC L) none .no, .v (.int .i64 x)] h (.v (.bool (L.contains x))) h [] := by
  refine contract_of k37 mixed (by simp [c37]) fun hh hargs => ?_
  simp [c37]
  refine xloop_ok (D := Nat) (fun j => ⟨[(0, .sl 1 (enc intC L) none .no), (1, .v (.int .i64 x)), (5, .v (.int .i64 (j : Int)))], [], h, []⟩) (fun j => j ≤ L.length ∧ x ∉ L.take j) (fun j => L.length - j) 0 ⟨by omega, by simp⟩ ?_ ?_
  · simp [Leq, hh, leqH_take]
    done
  · rintro j ⟨hj, hno⟩
    by_cases hlt : j < L.length
    · have hw : IntKind.i64.wrap ((j : Int) + 1) = (j : Int) + 1 := wrap64 (by omega) (by omega)
      by_cases e : L[j] = x
      · have hm : x ∈ L := e ▸ List.getElem_mem hlt
        simp [hlt, intC, e, hh, hm]
        done
      · simp [hlt, intC, e, hw]
        refine ⟨j + 1, ⟨by omega, has_take hlt hno e⟩, by omega, ?_⟩
        simp [Leq, hh, leqH_take]
        done
    · have : j = L.length := by omega
      subst this
      rw [List.take_length] at hno
      simp [hh, hno]
      done
def ownR : List Int → AV
  | [] => .sl 0 [] (some true) .exact
  | x :: r => .sl 1 (enc intC (x :: r)) none (.own .res)
def outW (L : List Int) (x : Int) (h : List (List AV)) (j : Nat) : List Int → St
  | [] => ⟨[(0, .sl 1 (enc intC L) none .no), (1, .v (.int .i64 x)), (5, .sl 0 [] (some true) .exact), (6, .v (.int .i64 (j : Int)))], [], h, []⟩
  | y :: r => ⟨[(0, .sl 1 (enc intC L) none .no), (1, .v (.int .i64 x)), (6, .v (.int .i64 (j : Int)))], [(5, .sl 1 (enc intC (y :: r)) none (.own (.slot 5)))], h, []⟩
theorem dwithout_c (hl : L.length ≤ 1000000) (x : Int) : Contract Try.prog 74 [.sl 1 (enc intC L) none .no, .v (.int .i64 x)] h (ownR (remI L x)) h [] := by
  refine contract_of k74 mixed (by simp [c74]) fun hh hargs => ?_
  simp [c74]
  refine xloop_ok (D := Nat) (fun j => outW L x h j (remI (L.take j) x)) (fun j => j ≤ L.length) (fun j => L.length - j) 0 (by omega) ?_ ?_
  · simp [Leq, hh, leqH_take, outW, remI]
    done
  · intro j hj
    by_cases hlt : j < L.length
    · have hw : IntKind.i64.wrap ((j : Int) + 1) = (j : Int) + 1 := wrap64 (by omega) (by omega)
      have hn := take_next hlt
      have hrl : (remI (L.take j) x).length ≤ 1000000 := Nat.le_trans (List.length_filter_le _ _) (by simp; omega)
      by_cases e : L[j] = x
      · have e2 : remI (L.take (j + 1)) x = remI (L.take j) x := by rw [hn, remI_snoc]; simp [e]
        cases hR : remI (L.take j) x with
        | nil =>
          simp [outW, hlt, intC, e, hw]
          refine ⟨j + 1, by omega, by omega, ?_⟩
          rw [e2, hR]
          simp [Leq, hh, leqH_take, outW, intC]
          done
        | cons y r =>
          simp [outW, hlt, intC, e, hw]
          refine ⟨j + 1, by omega, by omega, ?_⟩
          rw [e2, hR]
          simp [Leq, hh, leqH_take, outW, intC]
          done
      · have e2 : remI (L.take (j + 1)) x = remI (L.take j) x ++ [L[j]] := by rw [hn, remI_snoc]; simp [e]
        cases hR : remI (L.take j) x with
        | nil =>
          rw [hR] at e2
          simp [outW, hlt, intC, e, hw]
          refine xappendA_own ?_
          simp [hw]
          refine ⟨j + 1, by omega, by omega, ?_⟩
          rw [e2]
          simp [Leq, hh, leqH_take, outW, intC]
          done
        | cons y r =>
          rw [hR] at e2 hrl
          simp at hrl
          simp [outW, hlt, intC, e, hw]
          refine ⟨by omega, by omega, j + 1, by omega, by omega, ?_⟩
          rw [e2]
          simp [Leq, hh, leqH_take, outW, intC]
          done
    · have : j = L.length := by omega
      subst this
      rw [List.take_length]
      cases hR : remI L x with
      | nil =>
        simp [outW, hh, ownR]
        done
      | cons y r =>
        simp [outW, hh, ownR, intC]
        done
theorem done_c18 (hl : L.length ≤ 900000) (op : Oc) : Contract Try.prog 52 [.sl 1 (enc intC L) none .no, .agg (ocC op)] h (.sl 1 (enc intC (oneL L op)) none .no) h [] := by
  refine contract_of k52 mixed (by simp [c52]) fun hh hargs => ?_
  have hhas := dhas_c (h := h ++ [ocC op]) (L := L) (by omega) op.id
  have hwo := dwithout_c (h := h ++ [ocC op]) (L := L) (by omega) op.id
  have hrl := remI_le L op.id
  have hel : ∀ l : List Int, ltLL h.length (enc intC l) := fun l => by simp
  by_cases k1 : op.kind = 1
  · by_cases hx : op.id ∈ L
    · have hc : L.contains op.id = true := by simpa using hx
      have hp : oneL L op = L := by unfold oneL; rw [if_pos k1, if_pos hc]
      rw [hp]
      rw [hc] at hhas
      simp only [ocC] at hhas
      rw [k1] at hhas
      simp [c52, ocC, k1]
      refine xcall_self (by simp) hhas ?_
      simp
      refine xappendA_own ?_
      simp [hh]
      omega
    · have hc : L.contains op.id = false := by simpa using hx
      have hp : oneL L op = L ++ [op.id] := by unfold oneL; rw [if_pos k1, if_neg (by rw [hc]; simp)]
      rw [hp]
      rw [hc] at hhas
      simp only [ocC] at hhas
      rw [k1] at hhas
      simp [c52, ocC, k1]
      refine xcall_self (by simp) hhas ?_
      simp
      refine ⟨?_, ?_⟩
      · refine xappendA_own ?_
        simp [hh, intC]
        omega
      · refine xappendA_own ?_
        simp [hh, intC]
        omega
  by_cases k2 : op.kind = 2
  · have hp : oneL L op = remI L op.id := by unfold oneL; rw [if_neg k1, if_pos k2]
    rw [hp]
    simp only [ocC] at hwo
    rw [k2] at hwo
    simp [c52, ocC, k2]
    refine xcall_self (by simp) hwo ?_
    cases hR : remI L op.id with
    | nil =>
      simp [ownR, hh]
      done
    | cons y r =>
      simp [ownR, hh, intC]
      done
  by_cases k3 : op.kind = 3
  · by_cases hx : op.id ∈ L
    · have hc : L.contains op.id = true := by simpa using hx
      have hp : oneL L op = remI L op.id ++ [op.id] := by unfold oneL touchL; rw [if_neg k1, if_neg k2, if_pos k3, if_pos hc]
      rw [hp]
      rw [hc] at hhas
      simp only [ocC] at hhas hwo
      rw [k3] at hhas hwo
      simp [c52, ocC, k3]
      refine xcall_self (by simp) hhas ?_
      cases hR : remI L op.id with
      | nil =>
        rw [hR] at hwo
        simp only [ownR] at hwo
        simp
        refine ⟨?_, ?_⟩
        · refine xcall_self (by simp) hwo ?_
          simp
          refine xappendA_own ?_
          simp [hh, intC]
          done
        · refine xcall_self (by simp) hwo ?_
          simp
          refine xappendA_own ?_
          simp [hh, intC]
          done
      | cons y r =>
        rw [hR] at hwo hrl
        simp only [ownR] at hwo
        simp at hrl
        simp
        refine ⟨?_, ?_⟩
        · refine xcall_self (by simp) hwo ?_
          simp
          refine ⟨by omega, by omega, ?_⟩
          simp [hh, intC]
          done
        · refine xcall_self (by simp) hwo ?_
          simp
          refine ⟨by omega, by omega, ?_⟩
          simp [hh, intC]
          done
    · have hc : L.contains op.id = false := by simpa using hx
      have hp : oneL L op = L := by unfold oneL touchL; rw [if_neg k1, if_neg k2, if_pos k3, if_neg (by rw [hc]; simp)]
      rw [hp]
      rw [hc] at hhas
      simp only [ocC] at hhas
      rw [k3] at hhas
      simp [c52, ocC, k3]
      refine xcall_self (by simp) hhas ?_
      simp
      refine xappendA_own ?_
      simp [hh]
      omega
  · have hp : oneL L op = L := by unfold oneL; rw [if_neg k1, if_neg k2, if_neg k3]
    rw [hp]
    have b1 : (op.kind == 1) = false := by simpa using k1
    have b2 : (op.kind == 2) = false := by simpa using k2
    have b3 : (op.kind == 3) = false := by simpa using k3
    simp [c52, ocC, k1, k2, k3, b1, b2, b3]
    refine xappendA_own ?_
    simp [hh]
    omega
theorem dfold_c (ops : List Oc) (hbig : L.length + ops.length ≤ 900000) : Contract Try.prog 23 [.sl 1 (enc intC L) none .no, .sl 2 (enc ocC ops) none .no] h (.sl 1 (enc intC (foldL L ops)) none .no) h [] := by
  refine contract_of k23 mixed (by simp [c23]) fun hh hargs => ?_
  simp [c23]
  refine xappendA_own ?_
  simp
  refine ⟨by omega, by omega, ?_⟩
  refine xloop_ok (D := Nat) (fun j => ⟨[(1, .sl 2 (enc ocC ops) none .no), (5, .sl 1 (enc intC (foldL L (ops.take j))) none .no), (6, .v (.int .i64 (j : Int)))], [], h, []⟩) (fun j => j ≤ ops.length) (fun j => ops.length - j) 0 (by omega) ?_ ?_
  · simp [Leq, hh, leqH_take, foldL]
    done
  · intro j hj
    by_cases hlt : j < ops.length
    · have hw : IntKind.i64.wrap ((j : Int) + 1) = (j : Int) + 1 := wrap64 (by omega) (by omega)
      have hb := foldL_len (ops.take j) L
      rw [List.length_take] at hb
      have ho := done_c18 (h := h) (L := foldL L (ops.take j)) (by omega) ops[j]
      rw [← foldL_next hlt] at ho
      simp only [ocC] at ho
      simp [hlt, ocC]
      refine xcall_self (by simp) ho ?_
      simp [hw]
      refine ⟨j + 1, by omega, by omega, ?_⟩
      simp [Leq, hh, leqH_take]
      done
    · have : j = ops.length := by omega
      subst this
      rw [List.take_length]
      simp [hh]
      done
end
end Go.Proofs.Ytkcampfbpmjacaa.Ax
/- Which statements a server has, over values without memory: the document's cache. -/
namespace Go.Proofs.Ytkcampfbpmjacaa.Ax
open Go.RowKit Go By
set_option linter.unusedSimpArgs false
set_option linter.unusedVariables false
set_option maxRecDepth 10000

theorem leqH_behind {a b : List (List AV)} : ∀ (h : List (List AV)) (k : Nat), leqH (k + h.length) a b → leqH k (h ++ a) (h ++ b)
  | [], k, hh => by simpa using hh
  | c :: r, k, hh => ⟨.inl rfl, leqH_behind r (k + 1) (by simp only [List.length_cons] at hh; rw [show k + 1 + r.length = k + (r.length + 1) by omega]; exact hh)⟩
def dC18 (most : Nat) (L : List Int) : List AV := [.sl 1 (enc intC L) none .no, .v (.int .i64 (most : Int))]
@[simp] theorem dC18_lt (n most : Nat) (L : List Int) : ltL n (dC18 most L) = True := eq_true (by simp [dC18])
theorem opL_doc {most : Nat} {L : List Int} (op : Oc) (h : ¬ (op.kind = 1 ∧ most ≤ L.length)) : opL most L op = oneL L op := by
  unfold opL oneL addL
  by_cases k1 : op.kind = 1
  · have hn : ¬ most ≤ L.length := fun e => h ⟨k1, e⟩
    simp [k1, hn]
  · simp [k1]
theorem opL_skip {most : Nat} {L : List Int} {op : Oc} (h1 : op.kind = 1) (h2 : most ≤ L.length) : opL most L op = L := by
  unfold opL addL
  simp [h1, h2]
def gone1 (L L' : List Int) (q : Nat) : List Int := goneL (L.take q) L'
theorem gone1_next {L L' : List Int} {q : Nat} (hq : q < L.length) : gone1 L L' (q + 1) = if L[q] ∈ L' then gone1 L L' q else gone1 L L' q ++ [L[q]] := by
  unfold gone1 goneL
  rw [take_next hq, List.filter_append]
  split
  · rename_i h; simp [h]
  · rename_i h; simp [h]
def outG (ix : Nat) (L : List Int) (H : List (List AV)) (q : Nat) : List Int → St
  | [] => ⟨[(0, .box ix 0), (5, .sl 0 [] (some true) .exact), (6, .sl 1 (enc intC L) none .no), (8, .v (.int .i64 (q : Int)))], [], H, [ix]⟩
  | y :: r => ⟨[(0, .box ix 0), (6, .sl 1 (enc intC L) none .no), (8, .v (.int .i64 (q : Int)))], [(5, .sl 1 (enc intC (y :: r)) none (.own (.slot 5)))], H, [ix]⟩
section
variable {h : List (List AV)} {ix most : Nat} {L : List Int}
end
end Go.Proofs.Ytkcampfbpmjacaa.Ax
/- Layer 18's statement: a cache lives as the document's does. -/
namespace Go.Proofs.Ytkcampfbpmjacaa.Ax
open Go.RowKit Go By
set_option linter.unusedSimpArgs false
set_option linter.unusedVariables false
set_option maxRecDepth 10000

theorem called_ids {s : St} {A B : List AV} (hab : idsOf A = idsOf B) (d : Option Nat) (r : AV) (h : List (List AV)) (wr : List Nat) : s.called A d r h wr = s.called B d r h wr := by
  unfold St.called killedBy; rw [hab]
/-- A list of numbers, as a call answers one. -/
def LisAt (h : List (List AV)) (r : AV) (L : List Int) : Prop := (L = [] ∧ (r = .sl 1 [] none .no ∨ r = .sl 0 [] none .exact)) ∨ ∃ b c, r = .bsl b 0 1 L.length ∧ h[b]? = some (intsA c) ∧ c.take L.length = L
section
variable {h h2 : List (List AV)} {r : AV} {L ys : List Int}
theorem LisAt.id (hr : LisAt h r L) : r.idOf = none := by
  rcases hr with ⟨_, rfl | rfl⟩ | ⟨b, c, rfl, _⟩ <;> rfl
theorem LisAt.unown (hr : LisAt h r L) : r.unown = r := by
  rcases hr with ⟨_, rfl | rfl⟩ | ⟨b, c, rfl, _⟩ <;> rfl
theorem LisAt.cells (hr : LisAt h r L) : r.cells = some [r] := by
  rcases hr with ⟨_, rfl | rfl⟩ | ⟨b, c, rfl, _⟩ <;> rfl
theorem LisAt.stay (hr : LisAt h r L) (hs : ∀ q, q < h.length → ∀ c, h[q]? = some (intsA c) → h2[q]? = h[q]?) : LisAt h2 r L := by
  rcases hr with hr | ⟨b, c, hr, hb, hc⟩
  · exact .inl hr
  · exact .inr ⟨b, c, hr, by rw [hs b (List.getElem?_eq_some_iff.1 hb).1 c hb]; exact hb, hc⟩
theorem LisAt.of_fo {lo : Nat} {o : Option Nat} {c : List Int} (ht : FoAt lo h o c L) : LisAt h (foV o L.length) L := by
  cases o with
  | none => exact .inl ⟨ht.emp rfl, .inr rfl⟩
  | some b => exact .inr ⟨b, c, rfl, (ht.row b rfl).1, (ht.row b rfl).2.2.2.1⟩
theorem xequal {s : St} {d : Option Nat} {K : St → List Nat → Prop} (hr : LisAt s.heap r L) (hl : L.length ≤ 1000000) (hk : K (s.called [] d (.v (.bool (L == ys))) s.heap []) []) : xcall Try.prog 22 [r, .sl 1 (enc intC ys) none .no] s d K := by
  have e0 := equal1_any (P := Try.prog) mixed k22 [] ys s.heap (by simp)
  rw [eqL_beq] at e0
  rcases hr with ⟨rfl, rfl | rfl⟩ | ⟨b, c, rfl, hb, hc⟩
  · refine xcall_of e0 (by simp) (by simp) ?_
    rw [called_ids (B := [])]
    · exact hk
    · simp [idsOf, handL, hand, AV.idOf]
  · refine xcall_of e0 (by simp) (by simp) ?_
    rw [called_ids (B := [])]
    · exact hk
    · simp [idsOf, handL, hand, AV.idOf]
  · refine xcall_self (by simp) (equal_bs hb hc hl) ?_
    rw [called_ids (B := [])]
    · exact hk
    · simp [idsOf, AV.idOf]
end
theorem CaAt.put {h : List (List AV)} {most : Nat} {o : Option Nat} {c L : List Int} (ht : CaAt 0 h 1 0 most o c L) (hout : ∀ b, o = some b → 3 ≤ b) (cs : List AV) (hcs : ltL h.length cs) : CaAt 0 (h.set 2 cs) 1 0 most o c L :=
  ht.to (ht.lru.move (List.getElem?_set_ne (by omega)) (fun b e => List.getElem?_set_ne (by have := hout b e; omega)) (by rw [List.length_set]; exact ltLL_set ht.lru.lt hcs)) (List.getElem?_set_ne (by omega)) ht.apart.2
structure CV where
  H : List (List AV)
  o : Option Nat
  c : List Int
  L : List Int
  j : Nat
structure CV.Ok (n most : Nat) (d : CV) : Prop where
  le : d.j ≤ n
  at_ : CaAt 0 d.H 1 0 most d.o d.c d.L
  doc : d.H[2]? = some (dC18 most d.L)
  ok : LrOk most d.L
  out : ∀ b, d.o = some b → 3 ≤ b
end Go.Proofs.Ytkcampfbpmjacaa.Ax
/- What a server must be told ahead, over values without memory: what may be said, and what comes of it. -/
namespace Go.Proofs.Ytkcampfbpmjacaa.Ax
open Go.RowKit Go By Dg
set_option linter.unusedSimpArgs false
set_option linter.unusedVariables false
set_option maxRecDepth 10000

/-! ### What may be said -/
theorem clean_all {xs : List UInt8} (h : xs.all digB = true) : cleanB xs = true := by
  unfold cleanB
  rw [Bool.not_eq_true', ← Bool.not_eq_true, List.contains_iff_mem]
  intro hm
  have := List.all_eq_true.1 h 0 hm
  exact absurd this (by decide)
theorem clean_app (xs ys : List UInt8) : cleanB (xs ++ ys) = (cleanB xs && cleanB ys) := by
  unfold cleanB
  rw [Bool.eq_iff_iff]
  simp
theorem server_clean (n : Int) : cleanB (serverL n) = true := by
  unfold serverL
  split
  · rfl
  · rename_i hn
    rw [clean_app]
    have e : textL n = digsN n.toNat := by unfold textL; rw [if_neg (by omega)]
    rw [e, clean_all (digsN_all _)]
    decide
def queryF (text : List UInt8) : Fm := ⟨81, 0, [], [], text, [], [], [], [], 0⟩
theorem sgn_zero : sgnB 4 0 = true := by decide
theorem check_close {name : List UInt8} (h : cleanB name = true) : checkF (closeF name) = 0 := by
  unfold checkF
  rw [if_neg (by unfold closeF knownI; simp)]
  have e1 : whatB (closeF name) = true := by simp [whatB, closeF]
  have e2 : listsB (closeF name) = true := by simp [listsB, closeF]
  have e3 : cleanF (closeF name) = true := by simp [cleanF, closeF, h]; decide
  have e4 : sgnB 4 (closeF name).max = true := sgn_zero
  have e5 : sameF (closeF name) (saidF (closeF name)) = true := by rw [sameF_eq]; simp [saidF, closeF]
  rw [e1, e2, e3, e4, e5]; rfl
theorem check_parse {name text : List UInt8} (h : cleanB name = true) : checkF (parseF name ⟨text, []⟩) = if cleanB text = true then 0 else 1 := by
  unfold checkF
  rw [if_neg (by unfold parseF knownI; simp)]
  have e1 : whatB (parseF name ⟨text, []⟩) = true := by simp [whatB, parseF]
  have e2 : listsB (parseF name ⟨text, []⟩) = true := by simp [listsB, parseF]
  have e3 : cleanF (parseF name ⟨text, []⟩) = cleanB text := by
    have : cleanB [] = true := by decide
    simp [cleanF, parseF, h, this]
  have e4 : sgnB 4 (parseF name ⟨text, []⟩).max = true := sgn_zero
  have e5 : sameF (parseF name ⟨text, []⟩) (saidF (parseF name ⟨text, []⟩)) = true := by rw [sameF_eq]; simp [saidF, parseF]
  rw [e1, e2, e3, e4, e5]
  cases cleanB text <;> rfl
theorem check_query (text : List UInt8) : checkF (queryF text) = if cleanB text = true then 0 else 1 := by
  unfold checkF
  rw [if_neg (by unfold queryF knownI; simp)]
  have e1 : whatB (queryF text) = true := by simp [whatB, queryF]
  have e2 : listsB (queryF text) = true := by simp [listsB, queryF]
  have e3 : cleanF (queryF text) = cleanB text := by
    have : cleanB [] = true := by decide
    simp [cleanF, queryF, this]
  have e4 : sgnB 4 (queryF text).max = true := sgn_zero
  have e5 : sameF (queryF text) (saidF (queryF text)) = true := by rw [sameF_eq]; simp [saidF, queryF]
  rw [e1, e2, e3, e4, e5]
  cases cleanB text <;> rfl
theorem query_fit {text : List UInt8} (h : text.length ≤ 1000) : FmFit (queryF text) := by
  unfold FmFit queryF
  simp
  omega
/-- What is told may be said, if its text may. -/
theorem ready_said (spec : List Int) (most id : Int) (text : List UInt8) : ∀ m ∈ readyF spec most id ⟨text, []⟩, ¬ checkF m = 0 → ¬ checkF (queryF text) = 0 := by
  have hc : ∀ x : Int, checkF (closeF (serverL x)) = 0 := fun x => check_close (server_clean x)
  intro m hm h0
  unfold readyF at hm
  split at hm
  · cases hm
  · rcases List.mem_append.1 hm with h1 | h1
    · unfold roomF at h1
      split at h1
      · rw [List.mem_singleton.1 h1] at h0
        exact absurd (hc _) h0
      · cases h1
    · rw [List.mem_singleton.1 h1, check_parse (server_clean id)] at h0
      rw [check_query]; exact h0
theorem ready_hide (spec : List Int) (most id : Int) : ∀ e ∈ readyE spec most id, e.hide = true := by
  intro e he
  unfold readyE at he
  split at he
  · cases he
  · rcases List.mem_append.1 he with h1 | h1
    · unfold roomE at h1
      split at h1
      · rw [List.mem_singleton.1 h1]; rfl
      · cases h1
    · rw [List.mem_singleton.1 h1]; rfl

/-! ### What comes of it -/
theorem specL_fold : ∀ (l : List En) (L : List Int), specL L l = foldL L (l.flatMap En.cache)
  | [], L => rfl
  | e :: l, L => by
    show specL (foldL L e.cache) l = _
    rw [specL_fold l, List.flatMap_cons]
    unfold foldL
    rw [List.foldl_append]
theorem remI_notin (L : List Int) (x : Int) : x ∉ remI L x := by unfold remI; simp
theorem remI_lt {L : List Int} {x : Int} (h : x ∈ L) : (remI L x).length < L.length := by
  unfold remI
  exact List.length_filter_lt_length_iff_exists.2 ⟨x, h, by simp⟩
theorem ready_then {S : List Int} {n : Int} {id : Int} (hS : (S.length : Int) ≤ n) (hn : 1 ≤ n) :
    id ∈ specL S (readyE S n id) ∧ ((specL S (readyE S n id)).length : Int) ≤ n := by
  unfold readyE
  by_cases hc : S.contains id = true
  · rw [if_pos hc]
    exact ⟨by show id ∈ S; simpa using hc, by show (S.length : Int) ≤ n; exact hS⟩
  · rw [if_neg hc]
    have hc2 : S.contains id = false := by simpa using hc
    cases hf : full19 S n with
    | false =>
      obtain ⟨_, e2⟩ := room_no hf
      rw [e2]
      have e : specL S ([] ++ [hidE 2 ⟨1, id⟩]) = S ++ [id] := by
        show oneL S ⟨1, id⟩ = _
        unfold oneL; rw [if_pos rfl, if_neg (by rw [hc2]; simp)]
      rw [e]
      refine ⟨by simp, ?_⟩
      have : S.length = 0 ∨ (S.length : Int) < n := by
        unfold full19 at hf; simp at hf
        by_cases h0 : S = []
        · left; rw [h0]; rfl
        · right; exact hf h0
      simp
      omega
    | true =>
      obtain ⟨_, e2⟩ := room_yes hf
      rw [e2]
      have hne : S ≠ [] := fun e => by rw [e, full_nil] at hf; cases hf
      have hx : S.headD 0 ∈ S := by cases S with | nil => exact absurd rfl hne | cons a r => simp
      have hlt := remI_lt hx
      have hnot : ¬ (remI S (S.headD 0)).contains id = true := by
        intro h
        have h1 : id ∈ remI S (S.headD 0) := by simpa using h
        have h2 : id ∈ S := (List.mem_filter.1 h1).1
        exact hc (by simpa using h2)
      have e : specL S ([hidE 7 ⟨2, S.headD 0⟩] ++ [hidE 2 ⟨1, id⟩]) = remI S (S.headD 0) ++ [id] := by
        show oneL (oneL S ⟨2, S.headD 0⟩) ⟨1, id⟩ = _
        have e3 : oneL S ⟨2, S.headD 0⟩ = remI S (S.headD 0) := by unfold oneL; rw [if_neg (by simp), if_pos rfl]
        rw [e3]
        unfold oneL; rw [if_pos rfl, if_neg hnot]
      rw [e]
      refine ⟨by simp, ?_⟩
      rw [List.length_append, List.length_singleton]
      omega

/-! ### A list as it stands, folded -/
section
variable {lo : Nat} {h : List (List AV)} {L : List Int}
theorem clone_zx : Contract Try.prog 40 [.sl 0 [] none .exact] h (.sl 0 [] none .exact) h [] := by
  refine contract_nul (pre := []) (post := []) (fun _ => clone_zn 0 .exact rfl) ?_
  refine contract_of k40 mixed (by simp [c40]) fun hh hargs => ?_
  simp [c40]
  refine .inr (.inr ⟨rfl, .inr ⟨rfl, rfl, rfl, rfl, ?_⟩⟩)
  simp [hh]
  done
theorem cfold_fo {o : Option Nat} {c : List Int} (ht : FoAt lo h o c L) (ops : List Oc) (hbig : L.length + ops.length ≤ 900000) : SDoes 21 [foV o L.length, .sl 2 (enc ocC ops) none .no] h (foldL L ops) := by
  have hh0 := ht.lt
  by_cases hl : L = []
  · subst hl
    have t0 : FoAt h.length h none [] [] := ⟨fun _ => rfl, fun b e => by (cases e), hh0⟩
    obtain ⟨h', o', c', k1, t1, s1, l1, q1⟩ := foldAll_c t0 (Nat.le_refl _) ops hbig
    refine ⟨h', o', c', ?_, t1, fun q hq => s1 q hq (by simp), l1⟩
    have hlt1 := t1.lt
    have hfo := foV_lt t1 (foldL [] ops).length
    have k2 : Contract Try.prog 51 [.sl 0 [] none .exact, .sl 2 (enc ocC ops) none .no] h (foV o' (foldL [] ops).length) h' [] := k1
    cases o with
    | none =>
      have kk : Contract Try.prog 21 [.sl 0 [] none .exact, .sl 2 (enc ocC ops) none .no] h (foV o' (foldL [] ops).length) h' [] := by
        refine contract_of k21 mixed (by simp [c21]) fun hh hargs => ?_
        simp [c21]
        refine xcall_self (by simp) clone_zx ?_
        simp
        refine xcall_self (by simp) k2 ?_
        simp [hlt1, l1, hfo, leqH_take]
        done
      exact kk
    | some b =>
      have kk : Contract Try.prog 21 [.bsl b 0 1 0, .sl 2 (enc ocC ops) none .no] h (foV o' (foldL [] ops).length) h' [] := by
        refine contract_of k21 mixed (by simp [c21]) fun hh hargs => ?_
        simp [c21]
        refine xcall_self (by simp) (clone_zb b) ?_
        simp
        refine xcall_self (by simp) k2 ?_
        simp [hlt1, l1, hfo, leqH_take]
        done
      exact kk
  · cases o with
    | none => exact absurd (ht.emp rfl) hl
    | some b =>
      obtain ⟨r1, r2, r3, r4, r5⟩ := ht.row b rfl
      have hpos : 0 < L.length := List.length_pos_iff.2 hl
      have t0 : FoAt h.length (h ++ [intsA L]) (some h.length) L L := ⟨fun e => by (cases e), fun b e => by
        injection e with e; subst e
        exact ⟨by simp, hl, Nat.le_refl _, List.take_length, Nat.le_refl _⟩, by
        rw [List.length_append]; exact ltLL_append.2 ⟨ltLL_mono (Nat.le_add_right _ _) hh0, by simp⟩⟩
      have hcl := clone_v r1 r3 hpos (by omega)
      rw [r4] at hcl
      obtain ⟨h', o', c', k1, t1, s1, l1, q1⟩ := foldAll_c t0 (by simp) ops hbig
      have l2 : h.length + 1 ≤ h'.length := by simpa using l1
      refine ⟨h', o', c', ?_, t1, fun q hq => ?_, by omega⟩
      · have hlt1 := t1.lt
        have hfo := foV_lt t1 (foldL L ops).length
        have k2 : Contract Try.prog 51 [.bsl h.length 0 1 L.length, .sl 2 (enc ocC ops) none .no] (h ++ [intsA L]) (foV o' (foldL L ops).length) h' [h.length] := k1
        have l3 : h.length ≤ h'.length := by omega
        have kk : Contract Try.prog 21 [.bsl b 0 1 L.length, .sl 2 (enc ocC ops) none .no] h (foV o' (foldL L ops).length) h' [] := by
          refine contract_of k21 mixed (by simp [c21]) fun hh hargs => ?_
          simp [c21]
          refine xcall_self (by simp) hcl ?_
          simp
          refine xcall_self (by simp) k2 ?_
          simp [hlt1, l3, leqH_take, hfo]
          done
        exact kk
      · rw [s1 q (by simp; omega) (fun e => by injection e with e; omega), List.getElem?_append_left hq]
/-- A list that was handed in, or that a call made. -/
def NowAt (h : List (List AV)) (v : AV) (L : List Int) : Prop := v = .sl 1 (enc intC L) none .no ∨ ∃ lo o c, v = foV o L.length ∧ FoAt lo h o c L
theorem NowAt.id {v : AV} (hv : NowAt h v L) : v.idOf = none := by
  rcases hv with rfl | ⟨lo, o, c, rfl, _⟩
  · rfl
  · simp
theorem NowAt.unown {v : AV} (hv : NowAt h v L) : v.unown = v := by
  rcases hv with rfl | ⟨lo, o, c, rfl, _⟩
  · simp [AV.unown]
  · simp
theorem NowAt.cells {v : AV} (hv : NowAt h v L) : v.cells = some [v] := by
  rcases hv with rfl | ⟨lo, o, c, rfl, _⟩
  · rfl
  · simp
theorem NowAt.lt {v : AV} (hv : NowAt h v L) : v.lt h.length := by
  rcases hv with rfl | ⟨lo, o, c, rfl, ht⟩
  · simp
  · exact foV_lt ht _
theorem NowAt.app {v : AV} (hv : NowAt h v L) (xs : List (List AV)) (hx : ltLL (h.length + xs.length) xs) : NowAt (h ++ xs) v L := by
  rcases hv with rfl | ⟨lo, o, c, rfl, ht⟩
  · exact .inl rfl
  · exact .inr ⟨lo, o, c, rfl, ht.app xs hx⟩
theorem nowfold_c {v : AV} (hv : NowAt h v L) (hh : ltLL h.length h) (ops : List Oc) (hbig : L.length + ops.length ≤ 900000) :
    ∃ h' v', Contract Try.prog 21 [v, .sl 2 (enc ocC ops) none .no] h v' h' [] ∧ NowAt h' v' (foldL L ops) ∧ ltLL h'.length h' ∧ h.length ≤ h'.length := by
  rcases hv with rfl | ⟨lo, o, c, rfl, ht⟩
  · obtain ⟨h', o', c', k1, t1, s1, l1⟩ := cfold_c hh L ops hbig
    exact ⟨h', _, k1, .inr ⟨_, o', c', rfl, t1⟩, t1.lt, l1⟩
  · obtain ⟨h', o', c', k1, t1, s1, l1⟩ := cfold_fo ht ops hbig
    exact ⟨h', _, k1, .inr ⟨_, o', c', rfl, t1⟩, t1.lt, l1⟩
theorem nowhas_c {v : AV} (hv : NowAt h v L) (hl : L.length ≤ 1000000) (x : Int) : Contract Try.prog 19 [v, .v (.int .i64 x)] h (.v (.bool (L.contains x))) h [] := by
  rcases hv with rfl | ⟨lo, o, c, rfl, ht⟩
  · exact jhas_c hl x
  · exact fhas_c ht x
end
end Go.Proofs.Ytkcampfbpmjacaa.Ax
/- What a server must be told ahead, over values without memory: at most two are told, and then the statement is there. -/
namespace Go.Proofs.Ytkcampfbpmjacaa.Ax
open Go.RowKit Go By Dg
set_option linter.unusedSimpArgs false
set_option linter.unusedVariables false
set_option maxRecDepth 10000

/-! ### All ops of entries -/
def allOps (E : List En) : List Oc := E.flatMap En.cache
def outO (E : List En) (h : List (List AV)) (j : Nat) : St :=
  if j = 0 then ⟨[(3, .sl 0 [] (some true) .exact), (6, .sl 8 (enc enC E) none .no), (7, .v (.int .i64 (E.length : Int))), (8, .v (.int .i64 0))], [], h, []⟩
  else ⟨[(6, .sl 8 (enc enC E) none .no), (7, .v (.int .i64 (E.length : Int))), (8, .v (.int .i64 (j : Int)))], [(3, .sl 2 (enc ocC (allOps (E.take j))) none (.own (.slot 3)))], h, []⟩
theorem allOps_next {E : List En} {j : Nat} (hj : j < E.length) : allOps (E.take (j + 1)) = allOps (E.take j) ++ E[j].cache := by
  unfold allOps; rw [take_next hj, List.flatMap_append]; simp
theorem allOps_len : ∀ (E : List En), (∀ e ∈ E, e.cache.length ≤ 10) → (allOps E).length ≤ 10 * E.length
  | [], _ => by simp [allOps]
  | e :: r, h => by
    have h1 := allOps_len r fun x hx => h x (List.mem_cons_of_mem _ hx)
    have h2 := h e (by simp)
    unfold allOps at h1 ⊢
    rw [List.flatMap_cons, List.length_append, List.length_cons]; omega
theorem jops_c (E : List En) (hl : E.length ≤ 1000) (hf : ∀ e ∈ E, e.cache.length ≤ 10) (h : List (List AV)) : Contract Try.prog 24 [.sl 8 (enc enC E) none .no] h (.sl 2 (enc ocC (allOps E)) none .no) h [] := by
  refine contract_of k24 mixed (by simp [c24]) fun hh hargs => ?_
  simp [c24]
  have hl2 := ltLL_mono (Nat.le_add_right h.length 1) hh
  refine xloop_ok (D := Nat) (fun j => outO E h j) (fun j => j ≤ E.length) (fun j => E.length - j) 0 (by omega) ?_ ?_
  · simp [Leq, hh, leqH_take, outO]
    done
  · intro j hj
    by_cases hlt : j < E.length
    · have hw : IntKind.i64.wrap ((j : Int) + 1) = (j : Int) + 1 := wrap64 (by omega) (by omega)
      have hn := allOps_next hlt
      have hb := allOps_len (E.take j) fun e he => hf e (List.mem_of_mem_take he)
      rw [List.length_take] at hb
      have hc := hf _ (List.getElem_mem hlt)
      have hnz : ¬ j + 1 = 0 := by omega
      by_cases hj0 : j = 0
      · subst hj0
        have e0 : allOps (E.take 0) = [] := by simp [allOps]
        rw [e0] at hn
        simp [outO, hlt, enC_mk]
        refine xappendA_own ?_
        simp [hw]
        refine ⟨by omega, by omega, 1, by omega, by omega, ?_⟩
        have hn1 : allOps (E.take 1) = E[0].cache := by simpa using hn
        have hw0 : IntKind.i64.wrap 1 = 1 := wrap64 (by omega) (by omega)
        simp [Leq, hh, leqH_take, outO, hn1, hw0]
        done
      · simp [outO, hlt, hj0, enC_mk]
        refine ⟨by omega, by omega, ?_⟩
        simp [hw]
        refine ⟨j + 1, by omega, by omega, ?_⟩
        simp [Leq, hh, leqH_take, outO, hn]
        done
    · have hjl : j = E.length := by omega
      by_cases hj0 : j = 0
      · have hE : E = [] := List.eq_nil_of_length_eq_zero (by omega)
        subst hE
        subst hj0
        simp [outO, hh, allOps]
        done
      · rw [hjl] at hj0
        subst hjl
        simp [outO, hj0, hh]
        done

/-! ### The list that there is -/
def specN (N : Int) (ids : List UInt8) : List Int := ids.foldl (fun S k => if (S.length : Int) < N ∧ (1 + (k.toNat : Int)) ∉ S then S ++ [1 + (k.toNat : Int)] else S) []
theorem specN_next {N : Int} {ids : List UInt8} {j : Nat} (hj : j < ids.length) : specN N (ids.take (j + 1)) = if ((specN N (ids.take j)).length : Int) < N ∧ (1 + (ids[j].toNat : Int)) ∉ specN N (ids.take j) then specN N (ids.take j) ++ [1 + (ids[j].toNat : Int)] else specN N (ids.take j) := by
  unfold specN; rw [take_next hj, List.foldl_append]; rfl
theorem specN_len {N : Int} (hN : 0 ≤ N) (ids : List UInt8) : ((specN N ids).length : Int) ≤ N := by
  unfold specN
  suffices h : ∀ (l : List UInt8) (S : List Int), (S.length : Int) ≤ N → ((l.foldl (fun S k => if (S.length : Int) < N ∧ (1 + (k.toNat : Int)) ∉ S then S ++ [1 + (k.toNat : Int)] else S) S).length : Int) ≤ N from h ids [] (by simpa using hN)
  intro l
  induction l with
  | nil => intro S h; exact h
  | cons k r ih =>
    intro S h
    rw [List.foldl_cons]
    apply ih
    split
    · rename_i hc; simp; omega
    · exact h
def outP (N id : Int) (text ids : List UInt8) (j : Nat) : List Int → St
  | [] => ⟨[(2, .v (.int .u8 id)), (3, .v (.string (strB text))), (9, .v (.int .i64 N)), (10, .sl 0 [] (some true) .exact), (31, .sl 1 (bytesE ids) none .no), (32, .v (.int .i64 (ids.length : Int))), (33, .v (.int .i64 (j : Int)))], [], [], []⟩
  | y :: r => ⟨[(2, .v (.int .u8 id)), (3, .v (.string (strB text))), (9, .v (.int .i64 N)), (31, .sl 1 (bytesE ids) none .no), (32, .v (.int .i64 (ids.length : Int))), (33, .v (.int .i64 (j : Int)))], [(10, .sl 1 (enc intC (y :: r)) none (.own (.slot 10)))], [], []⟩
/-! ### What is there now -/
structure NS where
  H : List (List AV)
  v : AV
theorem NowAt.len {h : List (List AV)} {v : AV} {L : List Int} (hv : NowAt h v L) : vLenL v = ⟨True, .v (.int .i64 (L.length : Int)), false, []⟩ := by
  rcases hv with rfl | ⟨lo, o, c, rfl, ht⟩
  · simp
  · cases o with
    | none => rw [ht.emp rfl]; rfl
    | some b => rfl
theorem xnowequal {s : St} {d : Option Nat} {K : St → List Nat → Prop} {v : AV} {L ys : List Int} (hv : NowAt s.heap v L) (hl : L.length ≤ 1000000) (hk : K (s.called [] d (.v (.bool (L == ys))) s.heap []) []) : xcall Try.prog 22 [v, .sl 1 (enc intC ys) none .no] s d K := by
  rcases hv with rfl | ⟨lo, o, c, rfl, ht⟩
  · have e0 := equal1_any (P := Try.prog) mixed k22 L ys s.heap (by omega)
    rw [eqL_beq] at e0
    refine xcall_self (by simp) e0 ?_
    rw [called_ids (B := [])]
    · exact hk
    · simp [idsOf, AV.idOf]
  · exact xequal (LisAt.of_fo ht) hl hk
theorem ready_few (S : List Int) (N id : Int) : ∀ e ∈ readyE S N id, e.cache.length ≤ 10 := by
  intro e he
  unfold readyE at he
  split at he
  · cases he
  · rcases List.mem_append.1 he with h1 | h1
    · unfold roomE at h1
      split at h1
      · rw [List.mem_singleton.1 h1]; simp [hidE]
      · cases h1
    · rw [List.mem_singleton.1 h1]; simp [hidE]
theorem now_chain (S : List Int) (hS : S.length ≤ 100) (E : List En) (hE : E.length ≤ 10) (hf : ∀ e ∈ E, e.cache.length ≤ 10) :
    ∃ G : Nat → NS, G 0 = ⟨[], .sl 1 (enc intC S) none .no⟩ ∧ (∀ j ≤ E.length, NowAt (G j).H (G j).v (specL S (E.take j)) ∧ ltLL (G j).H.length (G j).H) ∧ ∀ j < E.length, ∀ hj : j < E.length, Contract Try.prog 21 [(G j).v, .sl 2 (enc ocC E[j].cache) none .no] ((G j).H ++ [enC E[j]]) (G (j + 1)).v (G (j + 1)).H [] := by
  refine chain_of (fun j (s : NS) => NowAt s.H s.v (specL S (E.take j)) ∧ ltLL s.H.length s.H) (fun j (s s' : NS) => ∀ hj : j < E.length, Contract Try.prog 21 [s.v, .sl 2 (enc ocC E[j].cache) none .no] (s.H ++ [enC E[j]]) s'.v s'.H []) ⟨[], .sl 1 (enc intC S) none .no⟩ ⟨.inl rfl, by simp⟩ E.length fun j hj s hs => ?_
  obtain ⟨hv, hlt⟩ := hs
  have hlen := specL_len (E.take j) S (fun e he => hf e (List.mem_of_mem_take he))
  rw [List.length_take] at hlen
  have hc := hf _ (List.getElem_mem hj)
  have hx : ltLL (s.H.length + [enC E[j]].length) [enC E[j]] := by simp
  obtain ⟨h', v', k1, k2, k3, k4⟩ := nowfold_c (hv.app [enC E[j]] hx) (by rw [List.length_append]; exact ltLL_append.2 ⟨ltLL_mono (Nat.le_add_right _ _) hlt, hx⟩) E[j].cache (by omega)
  rw [← specL_next hj] at k2
  exact ⟨⟨h', v'⟩, ⟨k2, k3⟩, fun _ => k1⟩
theorem jreadyl_c (ids : List UInt8) (most id : Int) (text : List UInt8) (hm0 : 0 ≤ most) (hm1 : most < 256) (hi0 : 0 ≤ id) (hi1 : id < 256) : Contract Try.prog 4 [.sl 1 (bytesE ids) none .no, .v (.int .u8 most), .v (.int .u8 id), .v (.string (strB text))] [] (.v (.bool true)) [] [] := by
  refine contract_cut (XCode.cuts [false, false, false, false, true, false, false, true] c4.code) k4 rfl mixed (by simp [c4]) fun hh hargs => ?_
  by_cases b1 : (60 : Int) < ids.length
  · simp [c4, XCode.cuts, b1]
    refine xcall_self (by simp) (jawake_c _) ?_
    simp
    done
  by_cases b2 : (300 : Int) < text.length
  · simp [c4, XCode.cuts, b1, b2]
    refine xcall_self (by simp) (jawake_c _) ?_
    simp
    done
  have h20a : 0 ≤ most.tmod 20 := Int.tmod_nonneg 20 hm0
  have h20b : most.tmod 20 < 20 := Int.tmod_lt_of_pos most (by omega)
  have w1 : IntKind.i64.wrap (most.tmod 20) = most.tmod 20 := wrap64 (by omega) (by omega)
  have w2 : IntKind.i64.wrap (1 + most.tmod 20) = 1 + most.tmod 20 := wrap64 (by omega) (by omega)
  have w3 : IntKind.i64.wrap id = id := wrap64 (by omega) (by omega)
  have w4 : IntKind.i64.wrap (1 + id) = 1 + id := wrap64 (by omega) (by omega)
  simp [c4, XCode.cuts, b1, b2, w1, w2]
  obtain ⟨N, hN⟩ : ∃ N, 1 + most.tmod 20 = N := ⟨_, rfl⟩
  rw [hN]
  have hN1 : 1 ≤ N := by omega
  have hN2 : N ≤ 20 := by omega
  clear w1 w2 hN h20a h20b
  refine xseq_cut ⟨[(2, .v (.int .u8 id)), (3, .v (.string (strB text))), (9, .v (.int .i64 N)), (10, .sl 1 (enc intC (specN N ids)) none .no)], [], [], []⟩ ?_ ?_
  · simp
    refine xloop_ok (D := Nat) (fun j => outP N id text ids j (specN N (ids.take j))) (fun j => j ≤ ids.length) (fun j => ids.length - j) 0 (by omega) ?_ ?_
    · simp [Leq, outP, specN]
      done
    · intro j hj
      by_cases hlt : j < ids.length
      · have hw : IntKind.i64.wrap ((j : Int) + 1) = (j : Int) + 1 := wrap64 (by omega) (by omega)
        have hk : ids[j].toNat < 256 := ids[j].toNat_lt
        have hw2 : IntKind.i64.wrap (ids[j].toNat : Int) = ids[j].toNat := wrap64 (by omega) (by omega)
        have hw3 : IntKind.i64.wrap (1 + (ids[j].toNat : Int)) = 1 + ids[j].toNat := wrap64 (by omega) (by omega)
        have hn := specN_next (N := N) hlt
        have hSl := specN_len (N := N) (by omega) (ids.take j)
        obtain ⟨S, hS⟩ : ∃ S, specN N (ids.take j) = S := ⟨_, rfl⟩
        rw [hS] at hn hSl
        simp only [hS]
        have hhas := fun h => jhas_c (h := h) (L := S) (by omega) (1 + (ids[j].toNat : Int))
        cases S with
        | nil =>
          have c1 : (0 : Int) < N := by omega
          rw [if_pos ⟨by simpa using c1, by simp⟩] at hn
          simp [outP, hlt, c1, hw2, hw3]
          refine xcall_of (hhas _) (by simp [enc]) (by simp) ?_
          simp [hw2, hw3]
          refine xappendA_own ?_
          simp [hw]
          refine ⟨j + 1, by omega, by omega, ?_⟩
          rw [hn]
          simp [Leq, outP, intC]
          done
        | cons y r =>
          by_cases c1 : ((y :: r).length : Int) < N
          · have c1' : (r.length : Int) + 1 < N := by simpa using c1
            simp [outP, hlt, c1', hw2, hw3]
            refine xcall_of (hhas _) (by simp [enc, intC]) (by simp) ?_
            by_cases hm : (1 + (ids[j].toNat : Int)) ∈ y :: r
            · rw [if_neg (fun h => h.2 hm)] at hn
              have hm2 : (y :: r).contains (1 + (ids[j].toNat : Int)) = true := by simpa using hm
              rw [hm2]
              simp [hw]
              refine ⟨j + 1, by omega, by omega, ?_⟩
              rw [hn]
              simp [Leq, outP, intC]
              done
            · rw [if_pos ⟨c1, hm⟩] at hn
              have hm2 : (y :: r).contains (1 + (ids[j].toNat : Int)) = false := by simpa using hm
              rw [hm2]
              simp [hw, hw2, hw3]
              simp at hSl
              refine ⟨by omega, by omega, j + 1, by omega, by omega, ?_⟩
              rw [hn]
              simp [Leq, outP, intC]
              done
          · have c1' : ¬ (r.length : Int) + 1 < N := by simpa using c1
            rw [if_neg (fun h => c1 h.1)] at hn
            simp [outP, hlt, c1', hw]
            refine ⟨j + 1, by omega, by omega, ?_⟩
            rw [hn]
            simp [Leq, outP, intC]
            done
      · have : j = ids.length := by omega
        subst this
        rw [List.take_length]
        obtain ⟨S, hS⟩ : ∃ S, specN N ids = S := ⟨_, rfl⟩
        rw [hS]
        cases S with
        | nil =>
          simp [outP, Leq]
          done
        | cons y r =>
          simp [outP, Leq, intC]
          done
  · have hSl := specN_len (N := N) (by omega) ids
    obtain ⟨S, hS⟩ : ∃ S, specN N ids = S := ⟨_, rfl⟩
    rw [hS] at hSl ⊢
    have hSn : S.length ≤ 20 := by omega
    have hready := jready_c S (by omega) N (1 + id) ⟨text, []⟩ (by simp) []
    obtain ⟨g1, g2, g3, g4⟩ := ready_fit S N (1 + id) ⟨text, []⟩ (by simp; omega) (by simp)
    have hsaid := ready_said S N (1 + id) text
    have hhide := ready_hide S N (1 + id)
    have hfew := ready_few S N (1 + id)
    obtain ⟨hin, hmost⟩ := ready_then (id := 1 + id) hSl hN1
    obtain ⟨F, hF⟩ : ∃ F, readyF S N (1 + id) ⟨text, []⟩ = F := ⟨_, rfl⟩
    obtain ⟨E, hE⟩ : ∃ E, readyE S N (1 + id) = E := ⟨_, rfl⟩
    rw [hF] at hready g1 g3 g4 hsaid
    rw [hE] at hready g2 g4 hhide hfew hin hmost
    simp [w3, w4]
    refine xcall_of hready (by simp [smC_mk, enc]) (by simp) ?_
    have f2 : ¬ (2 : Int) < F.length := by omega
    have f3 : (F.length : Int) = E.length := by omega
    have f4 : ((F.length : Int) != E.length) = false := by simp; omega
    have f5 : ¬ (2 : Int) < E.length := by omega
    simp [f3, f5]
    refine xseq_cut ⟨[(2, .v (.int .u8 id)), (3, .v (.string (strB text))), (9, .v (.int .i64 N)), (10, .sl 1 (enc intC S) none .no), (13, .sl 10 (enc fmC F) none .no), (14, .sl 8 (enc enC E) none .no), (15, .sl 1 (enc intC S) none .no)], [], [], []⟩ ?_ ?_
    · simp [Leq]
      done
    obtain ⟨G, G0, GI, GR⟩ := now_chain S (by omega) E (by omega) hfew
    have g00 : (G 0).H = [] := by rw [G0]
    have g01 : (G 0).v = .sl 1 (enc intC S) none .no := by rw [G0]
    simp
    refine xloop_ok (D := Nat) (fun j => ⟨[(2, .v (.int .u8 id)), (3, .v (.string (strB text))), (9, .v (.int .i64 N)), (10, .sl 1 (enc intC S) none .no), (13, .sl 10 (enc fmC F) none .no), (14, .sl 8 (enc enC E) none .no), (15, (G j).v), (78, .sl 8 (enc enC E) none .no), (79, .v (.int .i64 (E.length : Int))), (80, .v (.int .i64 (j : Int)))], [], (G j).H, []⟩) (fun j => j ≤ E.length) (fun j => E.length - j) 0 (by omega) ?_ ?_
    · rw [g00, g01]
      simp [Leq]
      done
    · intro j hj
      obtain ⟨hv, hlt0⟩ := GI j hj
      have vi := hv.id
      have vu := hv.unown
      have vc := hv.cells
      have vlt := hv.lt
      by_cases hlt : j < E.length
      · have hlf : j < F.length := by omega
        have hw : IntKind.i64.wrap ((j : Int) + 1) = (j : Int) + 1 := wrap64 (by omega) (by omega)
        obtain ⟨hv1, hlt1⟩ := GI (j + 1) (by omega)
        have vi1 := hv1.id
        have vlt1 := hv1.lt
        have kj := GR j hlt hlt
        have hh1 := hhide _ (List.getElem_mem hlt)
        have hck := fcheck_c F[j] (g1 _ (List.getElem_mem hlf)) ((G j).H ++ [enC E[j]])
        have hs := hsaid _ (List.getElem_mem hlf)
        simp [hlt, hlf, hh1, vi, vu, vc]
        refine xcall_self (by simp) hck ?_
        by_cases hc : checkF F[j] = 0
        · simp [hc, vi, vu, vc]
          refine xcall_self (by simp [vi]) kj ?_
          simp [hw, vi1]
          refine ⟨j + 1, by omega, by omega, ?_⟩
          simp [Leq, leqH_take, hlt1, vi1, vlt1]
          done
        · have hq := hs hc
          have hc1 : (checkF F[j] != 0) = true := by simpa using hc
          have hq1 : (checkF (queryF text) == 0) = false := by simpa using hq
          simp [hc1, vi, vu, vc]
          refine xcall_of (fcheck_c (queryF text) (query_fit (by omega)) _) (by simp [fmC_mk, queryF, enc]) (by simp) ?_
          simp [hc1, hq1, vi, vu, vc]
          refine xcall_self (by simp [vi]) kj ?_
          simp [hw, vi1]
          refine ⟨j + 1, by omega, by omega, ?_⟩
          simp [Leq, leqH_take, hlt1, vi1, vlt1]
          done
      · have hjl : j = E.length := by omega
        subst hjl
        rw [List.take_length] at hv
        have hcon := nowhas_c hv (by omega) (1 + id)
        have hc : (specL S E).contains (1 + id) = true := by simpa using hin
        rw [hc] at hcon
        have vl := hv.len
        have hspec := specL_fold E S
        have hal := allOps_len E hfew
        simp [vi, vu, vc, w3, w4]
        refine xcall_self (by simp [vi]) hcon ?_
        simp [vi, vu, vc, vl, hmost, -vLenL]
        refine xcall_self (by simp) (jops_c E (by omega) hfew _) ?_
        simp [vi, vu, vc]
        refine xcall_self (by simp) (dfold_c (L := S) (allOps E) (by omega)) ?_
        simp [vi, vu, vc]
        refine xnowequal hv (by omega) ?_
        have heq : (specL S E == foldL S (allOps E)) = true := by rw [hspec]; simp [allOps]
        rw [heq]
        simp [vi, vu, vc]
        refine xcall_self (by simp) (jawake_c _) ?_
        simp [hlt0, leqH_take]
        done
theorem jreadyl_l (ids : List UInt8) (most id : Int) (text : List UInt8) (h1 : (Lit.int .u8 most).wf = true) (h2 : (Lit.int .u8 id).wf = true) : Contract Try.prog 4 [.sl 1 (bytesE ids) none .no, .v (.int .u8 most), .v (.int .u8 id), .v (.string (strB text))] [] (.v (.bool true)) [] [] :=
  jreadyl_c ids most id text (u8_of_wf h1).1 (u8_of_wf h1).2 (u8_of_wf h2).1 (u8_of_wf h2).2
end Go.Proofs.Ytkcampfbpmjacaa.Ax
namespace Go.Proofs.Ytkcampfbpmjacaa.injectReady
open Go.ChangeShapes Go.WideShapes Go.ChangeAt Go.RowKit
open Go.ChangeMaps (open_string shut_string)
set_option linter.unusedVariables false

theorem own : ownKnob Try.prog.godebug = none := by kernel_rfl
theorem laidOut : laidOutB Try.prog = true := by kernel_rfl

set_option maxRecDepth 100000 in
theorem lifted (os : Os) (started : os.Started) (H : Type) (enc : TypeId × Value → H) :
    ReturnsInHanded {} Try.checked os 4 .any (Rows.injectReadySpec.pre6 enc Try.prog Try.f4 Rows.injectReadyRow.domain false) (Rows.injectReadySpec.post enc Try.prog Try.f4 false true false false) := by
  refine returnsInHanded_of_change (C := Try.checked) own started (by kernel_rfl) Try.func4
    (ChangeSpec.witness6 (enc := enc) (C := Try.checked) false ⟨#[], #[.slice none 0 0, .int .u8 0, .int .u8 0, .string ByteArray.empty], []⟩ 8 (by kernel_rfl) (by kernel_rfl) (by kernel_rfl) (by kernel_rfl)) ?_
  intro W base args ds gs before hval0 hW hcnd _
  have hval : ∀ (j : Nat) t v, Try.f4.params[j]? = some t → args[j]? = some v → Value.okWide Try.prog W .any base t v := hval0
  have hW' := hW
  obtain ⟨p, q, hA0, hV, rfl, hfz, hnd⟩ := hW
  have hA : DataW.TrodAll enc Try.prog W 0 (fun _ => true) true Try.f4.params.toList args.toList ds p := hA0
  rw [Try.params4] at hA hval
  obtain ⟨v0, vs0, d0, ds0, p0, q0, hargs, rfl, rfl, h0, r0⟩ := trodAll_cons hA
  obtain ⟨v1, vs1, d1, ds1, p1, q1, rfl, rfl, rfl, h1, r1⟩ := trodAll_cons r0
  obtain ⟨v2, vs2, d2, ds2, p2, q2, rfl, rfl, rfl, h2, r2⟩ := trodAll_cons r1
  obtain ⟨v3, vs3, d3, ds3, p3, q3, rfl, rfl, rfl, h3, r3⟩ := trodAll_cons r2
  obtain ⟨rfl, rfl, rfl⟩ := trodAll_nil r3
  obtain rfl : args = #[v0, v1, v2, v3] := by cases args; simp_all
  obtain ⟨rfl, rfl⟩ := trodVars_none hV
  have k0 := h0
  have lt0 : ∀ x ∈ p0, x.block < W.heap.size := by obtain ⟨m, hm⟩ := k0; exact DataW.trod_lt m _ _ _ hm
  obtain ⟨a0, ok0, s0⟩ := Ax.arg_slice Try.underlying40 Ax.sh_bytes (hval 0 40 v0 rfl rfl) h0
  have k1 := h1
  have lt1 : ∀ x ∈ p1, x.block < W.heap.size := by obtain ⟨m, hm⟩ := k1; exact DataW.trod_lt m _ _ _ hm
  obtain ⟨a1, ok1, s1⟩ := Ax.arg_int Try.underlying5 (hval 1 5 v1 rfl rfl) h1
  have k2 := h2
  have lt2 : ∀ x ∈ p2, x.block < W.heap.size := by obtain ⟨m, hm⟩ := k2; exact DataW.trod_lt m _ _ _ hm
  obtain ⟨a2, ok2, s2⟩ := Ax.arg_int Try.underlying5 (hval 2 5 v2 rfl rfl) h2
  have k3 := h3
  have lt3 : ∀ x ∈ p3, x.block < W.heap.size := by obtain ⟨m, hm⟩ := k3; exact DataW.trod_lt m _ _ _ hm
  obtain ⟨a3, ok3, s3⟩ := Ax.arg_str Try.underlying9 (hval 3 9 v3 rfl rfl) h3
  clear hA0 hval0
  refine (Ax.law_walk (w := W) (Ax.dom_any W) (Ax.jreadyl_l a0 a1 a2 a3 ok1 ok2) (by simp) (.cons s0 (.cons s1 (.cons s2 (.cons s3 .nil))))).mono fun e W' ⟨he, bel⟩ => ?_
  subst he
  exact ⟨_, rfl, _, _, _, [], _, [], hW', trodAll_mk1 (shut_bool Try.underlying4 _), (trodAll_cons_mk (Below.trod laidOut (by kernel_rfl) (of_decide_eq_true (by kernel_rfl)) k0 bel lt0) (trodAll_cons_mk (Below.trod laidOut (by kernel_rfl) (of_decide_eq_true (by kernel_rfl)) k1 bel lt1) (trodAll_cons_mk (Below.trod laidOut (by kernel_rfl) (of_decide_eq_true (by kernel_rfl)) k2 bel lt2) (trodAll_cons_mk (Below.trod laidOut (by kernel_rfl) (of_decide_eq_true (by kernel_rfl)) k3 bel lt3) trodAll_mk0)))), rfl, bel.frame _, fun h => by cases h⟩

theorem over : Rows.injectReadyRow.holds Try.pinned (OpenSpec.ofChange Rows.injectReadySpec) :=
  OpenClaim.holds_of_wide 4 Try.f4 rfl rfl rfl rfl rfl rfl rfl ⟨rfl, rfl, rfl, rfl, rfl⟩ rfl rfl rfl rfl rfl (by kernel_rfl) Try.func4 (by kernel_rfl)
    (of_decide_eq_true (by kernel_rfl)) (by unfold Func.isWrapper; first | (rw [if_pos (by decide +kernel)]; kernel_rfl) | (rw [if_neg (by decide +kernel)]; exact ⟨rfl, rfl⟩))
    (fun os started H enc _ => lifted os started H enc)

theorem proved : Rows.InjectReadySaid := over
#print axioms proved
end Go.Proofs.Ytkcampfbpmjacaa.injectReady
