/- The engine over values without memory: Verdict, Rows; the document's engine. -/
import Derived.Test.YtknohkmpficjgaaGreatDoorQAxXr
import Derived.Test.YtknohkmpficjgaaGreatDoorRows
import Derived.Test.YtknohkmpficjgaaGreatDoorQAxGb
/- The texts of functions over values without memory, as the kernel reckons them out of the program. -/
namespace Go.Proofs.YtknohkmpficjgaaGreatDoor.Ax
open Go.RowKit Go By

end Go.Proofs.YtknohkmpficjgaaGreatDoor.Ax
namespace Go.Proofs.YtknohkmpficjgaaGreatDoor.Ax
open Go.RowKit Go By Dg
set_option linter.unusedSimpArgs false
set_option linter.unusedVariables false
set_option maxRecDepth 10000

def synC : List UInt8 := [52, 50, 54, 48, 49]
def synT : List UInt8 := [115, 121, 110, 116, 97, 120, 32, 101, 114, 114, 111, 114]
def abC : List UInt8 := [50, 53, 80, 48, 50]
def abT : List UInt8 := [99, 117, 114, 114, 101, 110, 116, 32, 116, 114, 97, 110, 115, 97, 99, 116, 105, 111, 110, 32, 105, 115, 32, 97, 98, 111, 114, 116, 101, 100, 44, 32, 99, 111, 109, 109, 97, 110, 100, 115, 32, 105, 103, 110, 111, 114, 101, 100, 32, 117, 110, 116, 105, 108, 32, 101, 110, 100, 32, 111, 102, 32, 116, 114, 97, 110, 115, 97, 99, 116, 105, 111, 110, 32, 98, 108, 111, 99, 107]
def relC : List UInt8 := [52, 50, 80, 48, 49]
def relT : List UInt8 := [114, 101, 108, 97, 116, 105, 111, 110, 32, 100, 111, 101, 115, 32, 110, 111, 116, 32, 101, 120, 105, 115, 116]
/-- A verdict: its code, what it says, whether there is one. -/
structure Vd where
  code : List UInt8
  text : List UInt8
  is : Bool
def vdV (d : Vd) : AV := .tup [.v (.string (strB d.code)), .v (.string (strB d.text)), .v (.bool d.is)]
def verdict (no : Bool) (v : Vb) (st : Int) : Vd :=
  if v.kind = 0 then ⟨synC, synT, true⟩ else if v.kind = 3 ∨ v.kind = 4 then ⟨[], [], false⟩ else if st = 69 then ⟨abC, abT, true⟩ else if v.kind = 1 then ⟨[], [], false⟩ else if no = true then ⟨relC, relT, true⟩ else ⟨[], [], false⟩
theorem eaborted_c (h : List (List AV)) : Contract Tryz.prog 176 [] h (.v (.string (strB abT))) h [] := by
  refine contract_of k176 mixed (by simp [c176]) fun hh hargs => ?_
  simp [c176, hh, abT]
section
variable {h : List (List AV)} {i : Nat} {T : Eg}
theorem everdict_c (ht : EgAt h i T) (s : List UInt8) (hs : s.length ≤ 9223372036854775807) (st : Int) : Contract Tryz.prog 126 [.box i 0, .v (.string (strB s)), .v (.int .u8 st)] h (vdV (verdict (T.no s) (sayQ (trimL s)) st)) h [] := by
  refine contract_of k126 mixed (by simp [c126]) fun hh hargs => ?_
  simp [c126]
  refine xcall_self (by simp) (qparse_c s hs _) ?_
  generalize sayQ (trimL s) = v
  have hm := made_c (ht.app [vbC v])
  have hr := erefuses_c (ht.app [vbC v]) s
  simp
  refine xcall_self (by simp) hm ?_
  unfold verdict
  by_cases k0 : v.kind = 0
  · simp [k0, hh, vdV, synC, synT, leqH_take]
  have k0' : (v.kind == 0) = false := by simpa using k0
  simp [k0, k0']
  refine xcall_self (by simp) (qexit_c v _) ?_
  by_cases k3 : v.kind = 3
  · simp [k3, hh, vdV, leqH_take]
  by_cases k4 : v.kind = 4
  · simp [k4, hh, vdV, leqH_take]
  have k3' : (v.kind == 3) = false := by simpa using k3
  have k4' : (v.kind == 4) = false := by simpa using k4
  simp [k3, k4, k3', k4']
  by_cases s69 : st = 69
  · simp [s69]
    refine xcall_self (by simp) (eaborted_c _) ?_
    simp [hh, vdV, abC, leqH_take]
  have s69' : (st == 69) = false := by simpa using s69
  by_cases k1 : v.kind = 1
  · simp [s69, s69', k1, hh, vdV, leqH_take]
  have k1' : (v.kind == 1) = false := by simpa using k1
  have k1n : (v.kind != 1) = true := by simpa using k1
  simp [s69, s69', k1, k1', k1n]
  refine xcall_self (by simp) hr ?_
  cases hn : T.no s with
  | true => simp [hh, vdV, relC, relT, leqH_take]
  | false => simp [hh, vdV, leqH_take]
/-- What a verb has. -/
def rowsV (v : Vb) (n : Nat) (ps : List Cl) : List (List Cl) := if v.kind = 5 then rowsK (heldI v.n).toNat else if v.kind = 6 then [ps] else if v.kind = 7 then [[(false, textL ((n : Int) + 1))]] else []
def nextV (v : Vb) (n : Nat) : Nat := if v.kind = 7 then n + 1 else n
theorem EgAt.set_self (ht : EgAt h i T) : h.set i (egC T.a T.n) = h := by
  obtain ⟨h1, h2⟩ := List.getElem?_eq_some_iff.1 ht.top
  rw [← h2, List.set_getElem_self]
theorem erows_c (ht : EgAt h i T) (hn : T.n ≤ 1000000) (v : Vb) (ps : List Cl) (hl : ps.length ≤ 1000000) (hb : ∀ c ∈ ps, c.2.length ≤ 140737488351232) : Contract Tryz.prog 81 [.box i 0, .agg (vbC v), .sl 2 (enc cellC ps) none .no] h (.sl 1 (enc rowKC (rowsV v T.n ps)) none .no) (h.set i (egC T.a (nextV v T.n))) [i] := by
  have hset := ht.set_self
  have ht2 := ht.app [vbC v]
  have hi := ht.i_lt
  have ha := ht.a_lt
  refine contract_of k81 mixed (by simp [c81]) fun hh hargs => ?_
  simp [c81]
  refine xcall_self (by simp) (made_c ht2) ?_
  unfold rowsV nextV
  by_cases k5 : v.kind = 5
  · simp [k5]
    refine xcall_self (by simp) (krows_c v.n _) ?_
    simp [hset, hh, leqH_take]
  have k5' : (v.kind == 5) = false := by simpa using k5
  by_cases k6 : v.kind = 6
  · simp [k6]
    refine xcall_self (by simp) (copyCells_c ps (by omega) hb _) ?_
    simp [hset, hh, leqH_take, rowKC_mk]
  have k6' : (v.kind == 6) = false := by simpa using k6
  by_cases k7 : v.kind = 7
  · have ht3 := enext_c ht2 hn
    have e : (h ++ [vbC v]).set i (egC T.a (T.n + 1)) = h.set i (egC T.a (T.n + 1)) ++ [vbC v] := by rw [List.set_append_left _ _ hi]
    rw [e] at ht3
    have hlen := dtext_len ((T.n : Int) + 1) (by omega) (by omega)
    have hlt := ltLL_set (i := i) hh (show ltL h.length (egC T.a (T.n + 1)) by simp [egC, ha])
    simp [k7]
    refine xcall_self (by simp) ht3 ?_
    simp
    refine xcall_self (by simp) (dtext_c ((T.n : Int) + 1) (by omega) (by omega) _) ?_
    simp [hh, leqH_take, rowKC_mk, cellC, hlt]
    omega
  have k7' : (v.kind == 7) = false := by simpa using k7
  simp [k5, k6, k7, k5', k6', k7', hset, hh, leqH_take]
theorem enew_c (h : List (List AV)) : Contract Tryz.prog 9 [] h (.box (h.length + 1) 0) (h ++ [mapC 0 [], egC h.length 0]) [] := by
  refine contract_of k9 mixed (by simp [c9]) fun hh hargs => ?_
  have hl := ltLL_mono (Nat.le_add_right h.length 2) hh
  simp [c9, hl, egC, mapC]
/-! ### The document's -/
variable {L : List (List UInt8)} {n : Nat}
def newE (a : Nat) : Eg := ⟨a, 0, 0, []⟩
end
end Go.Proofs.YtknohkmpficjgaaGreatDoor.Ax
