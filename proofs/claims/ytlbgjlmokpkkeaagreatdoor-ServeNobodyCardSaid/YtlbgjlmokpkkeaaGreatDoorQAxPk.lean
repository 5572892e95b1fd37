/- Portals over values without memory: awake; portals that no call made. -/
import Derived.Test.YtlbgjlmokpkkeaaGreatDoorQAxX
import Derived.Test.YtlbgjlmokpkkeaaGreatDoorQAxKc0
import Derived.Test.YtlbgjlmokpkkeaaGreatDoorQAxCl
import Derived.Test.YtlbgjlmokpkkeaaGreatDoorQCodeA
import Derived.Test.YtlbgjlmokpkkeaaGreatDoorQAxPa
import Derived.Test.YtlbgjlmokpkkeaaGreatDoorQAxSt
/- A copy of numbers: slices.Clone, over values without memory. -/
namespace Go.Proofs.YtlbgjlmokpkkeaaGreatDoor.Ax
open Go.RowKit Go By
set_option linter.unusedSimpArgs false
set_option linter.unusedVariables false
set_option maxRecDepth 10000

end Go.Proofs.YtlbgjlmokpkkeaaGreatDoor.Ax
/- Portals over values without memory: rows that are put fast; a portal with all of its own; what a set is. -/
namespace Go.Proofs.YtlbgjlmokpkkeaaGreatDoor.Ax
open Go.RowKit Go By
set_option linter.unusedSimpArgs false
set_option linter.unusedVariables false
set_option maxRecDepth 10000

/-! ### A portal -/
structure Pt where
  text : List UInt8
  oids : List Int
  ps : List Cl
  rows : List (List Cl)
  ran : Bool
  over : Bool
/-- Its cells, its rows lying there. -/
def ptC (p : Pt) (x : AV) : List AV := [.v (.string (strB p.text)), .sl 1 (enc intC p.oids) none .no, .sl 2 (enc cellC p.ps) none .no, x, .v (.bool p.ran), .v (.bool p.over)]
end Go.Proofs.YtlbgjlmokpkkeaaGreatDoor.Ax
/- Portals over values without memory: what a set is, and what stays of it. -/
namespace Go.Proofs.YtlbgjlmokpkkeaaGreatDoor.Ax
open Go.RowKit Go By
set_option linter.unusedSimpArgs false
set_option linter.unusedVariables false
set_option maxRecDepth 10000

/-- A portal in a set: its variable; where its rows lie. -/
structure PV where
  v : Nat
  p : Pt
  b : Nat
  o : Nat
def pvC (x : PV) : List AV := [.box x.v 0]
def roX (x : PV) : AV := if x.p.rows = [] then .sl 1 [] none .no else .bsl x.b x.o 1 x.p.rows.length
def pvars (x : PV) : List Nat := if x.p.rows = [] then [x.v] else [x.v, x.b]
theorem pvars_v (x : PV) : x.v ∈ pvars x := by unfold pvars; split <;> simp
theorem pvars_b {x : PV} (h : x.p.rows ≠ []) : x.b ∈ pvars x := by unfold pvars; rw [if_neg h]; simp
structure Ps where
  a : Nat
  clock : Nat
  e : List (KE PV)
def Ps.cells (S : Ps) : List AV := mapC S.clock (S.e.map (KE.ent pvC))
def Ps.vars (S : Ps) : List Nat := S.a :: S.e.flatMap fun x => pvars x.val
theorem Ps.mem_vars {S : Ps} {x : KE PV} (hx : x ∈ S.e) {q : Nat} (hq : q ∈ pvars x.val) : q ∈ S.vars := List.mem_cons_of_mem _ (List.mem_flatMap.2 ⟨x, hx, hq⟩)
structure PsAt (h : List (List AV)) (i : Nat) (S : Ps) : Prop where
  top : h[i]? = some [.mp S.a 1 true]
  ents : h[S.a]? = some S.cells
  each : ∀ x ∈ S.e, h[x.val.v]? = some (ptC x.val.p (roX x.val))
  rows : ∀ x ∈ S.e, x.val.p.rows ≠ [] → ∃ cs, h[x.val.b]? = some cs ∧ (cs.drop x.val.o).take x.val.p.rows.length = x.val.p.rows.map rowA ∧ x.val.o + x.val.p.rows.length ≤ cs.length
  sep : ∀ x ∈ S.e, ∀ y ∈ S.e, x.key ≠ y.key → ∀ q ∈ pvars x.val, q ∉ pvars y.val
  own : ∀ x ∈ S.e, (pvars x.val).Nodup ∧ i ∉ pvars x.val ∧ S.a ∉ pvars x.val
  apart : i ≠ S.a
  lt : ltLL h.length h
section
variable {h : List (List AV)} {i : Nat} {S : Ps}
theorem PsAt.i_lt (hr : PsAt h i S) : i < h.length := (List.getElem?_eq_some_iff.1 hr.top).1
theorem PsAt.a_lt (hr : PsAt h i S) : S.a < h.length := (List.getElem?_eq_some_iff.1 hr.ents).1
theorem PsAt.v_lt (hr : PsAt h i S) {x : KE PV} (hx : x ∈ S.e) : x.val.v < h.length := (List.getElem?_eq_some_iff.1 (hr.each x hx)).1
theorem PsAt.b_lt (hr : PsAt h i S) {x : KE PV} (hx : x ∈ S.e) (hne : x.val.p.rows ≠ []) : x.val.b < h.length := by
  obtain ⟨cs, h1, _⟩ := hr.rows x hx hne
  exact (List.getElem?_eq_some_iff.1 h1).1
theorem PsAt.var_lt (hr : PsAt h i S) {q : Nat} (hq : q ∈ S.vars) : q < h.length := by
  unfold Ps.vars at hq
  rcases List.mem_cons.1 hq with rfl | hq
  · exact hr.a_lt
  · obtain ⟨x, hx, hq⟩ := List.mem_flatMap.1 hq
    unfold pvars at hq
    split at hq
    · rw [List.mem_singleton.1 hq]; exact hr.v_lt hx
    · rename_i hne
      rcases List.mem_cons.1 hq with rfl | hq
      · exact hr.v_lt hx
      · rw [List.mem_singleton.1 hq]; exact hr.b_lt hx hne
theorem PsAt.move (hr : PsAt h i S) {h' : List (List AV)} (hi : h'[i]? = h[i]?) (hs : ∀ q ∈ S.vars, h'[q]? = h[q]?) (hlt : ltLL h'.length h') : PsAt h' i S :=
  ⟨hi.trans hr.top, (hs _ (List.mem_cons_self ..)).trans hr.ents, fun x hx => (hs _ (Ps.mem_vars hx (pvars_v _))).trans (hr.each x hx), fun x hx hne => by rw [hs _ (Ps.mem_vars hx (pvars_b hne))]; exact hr.rows x hx hne, hr.sep, hr.own, hr.apart, hlt⟩
end
end Go.Proofs.YtlbgjlmokpkkeaaGreatDoor.Ax
/- Portals over values without memory: the calls of a set. -/
namespace Go.Proofs.YtlbgjlmokpkkeaaGreatDoor.Ax
open Go.RowKit Go By
set_option linter.unusedSimpArgs false
set_option linter.unusedVariables false
set_option maxRecDepth 10000

section
variable {h : List (List AV)} {i : Nat} {S : Ps}
theorem pnew_c (h : List (List AV)) : Contract Tryz.prog 52 [] h (.box (h.length + 1) 0) (h ++ [mapC 0 [], [.mp h.length 1 true]]) [] := by
  refine contract_of k52 mixed (by simp [c52]) fun hh hargs => ?_
  have hl := ltLL_mono (Nat.le_add_right h.length 2) hh
  simp [c52, hl, mapC]
/-! ### Get -/
/-! ### Delete, Clear -/
/-! ### Put -/
end
end Go.Proofs.YtlbgjlmokpkkeaaGreatDoor.Ax
/- Portals over values without memory: Put, Ran. -/
namespace Go.Proofs.YtlbgjlmokpkkeaaGreatDoor.Ax
open Go.RowKit Go By
set_option linter.unusedSimpArgs false
set_option linter.unusedVariables false
set_option maxRecDepth 10000

section
variable {h : List (List AV)} {i : Nat} {S : Ps}
end
end Go.Proofs.YtlbgjlmokpkkeaaGreatDoor.Ax
/- Portals over values without memory: Ran, Fetch. -/
namespace Go.Proofs.YtlbgjlmokpkkeaaGreatDoor.Ax
open Go.RowKit Go By
set_option linter.unusedSimpArgs false
set_option linter.unusedVariables false
set_option maxRecDepth 10000

section
variable {h : List (List AV)} {i : Nat} {S : Ps}
/-! ### Ran -/
end
end Go.Proofs.YtlbgjlmokpkkeaaGreatDoor.Ax
/- Portals over values without memory: Fetch. -/
namespace Go.Proofs.YtlbgjlmokpkkeaaGreatDoor.Ax
open Go.RowKit Go By
set_option linter.unusedSimpArgs false
set_option linter.unusedVariables false
set_option maxRecDepth 10000

section
variable {h : List (List AV)} {i : Nat} {S : Ps}
end
end Go.Proofs.YtlbgjlmokpkkeaaGreatDoor.Ax
/- Portals over values without memory: Names; portals that no call made; awake. -/
namespace Go.Proofs.YtlbgjlmokpkkeaaGreatDoor.Ax
open Go.RowKit Go By
set_option linter.unusedSimpArgs false
set_option linter.unusedVariables false
set_option maxRecDepth 10000

section
variable {h : List (List AV)} {i : Nat} {S : Ps}
end
end Go.Proofs.YtlbgjlmokpkkeaaGreatDoor.Ax
namespace Go.Proofs.YtlbgjlmokpkkeaaGreatDoor.Ax
open Go.RowKit Go By
set_option linter.unusedSimpArgs false
set_option linter.unusedVariables false
set_option maxRecDepth 10000

theorem leqH_kept {H h : List (List AV)} (hl : h.length ≤ H.length) (hs : ∀ q < h.length, H[q]? = h[q]?) : leqH 0 (H.take h.length) h := by
  have e : H.take h.length = h := by
    refine List.ext_getElem? fun q => ?_
    rw [List.getElem?_take]
    split
    · rename_i hq; exact hs q hq
    · rename_i hq; rw [List.getElem?_eq_none (by omega)]
  rw [e]; exact leqH_refl _ _
def newS (a : Nat) : Ps := ⟨a, 0, []⟩
/-! ### Nobody's -/
section
variable {h : List (List AV)} {i : Nat}
variable {p : AV}
end
end Go.Proofs.YtlbgjlmokpkkeaaGreatDoor.Ax
