/- The engine over values without memory: Verdict, Rows; the document's engine. -/
import Derived.Test.YtmdapcmdlblnnaaDoorQAxXr
import Derived.Test.YtmdapcmdlblnnaaDoorRows
import Derived.Test.YtmdapcmdlblnnaaDoorQAxGb
/- The texts of functions over values without memory, as the kernel reckons them out of the program. -/
namespace Go.Proofs.YtmdapcmdlblnnaaDoor.Ax
open Go.RowKit Go By

end Go.Proofs.YtmdapcmdlblnnaaDoor.Ax
namespace Go.Proofs.YtmdapcmdlblnnaaDoor.Ax
open Go.RowKit Go By Dg
set_option linter.unusedSimpArgs false
set_option linter.unusedVariables false
set_option maxRecDepth 10000

def synC : List UInt8 := [52, 50, 54, 48, 49]
def synT : List UInt8 := [115, 121, 110, 116, 97, 120, 32, 101, 114, 114, 111, 114]
def abC : List UInt8 := [50, 53, 80, 48, 50]
def abT : List UInt8 := [99, 117, 114, 114, 101, 110, 116, 32, 116, 114, 97, 110, 115, 97, 99, 116, 105, 111, 110, 32, 105, 115, 32, 97, 98, 111, 114, 116, 101, 100, 44, 32, 99, 111, 109, 109, 97, 110, 100, 115, 32, 105, 103, 110, 111, 114, 101, 100, 32, 117, 110, 116, 105, 108, 32, 101, 110, 100, 32, 111, 102, 32, 116, 114, 97, 110, 115, 97, 99, 116, 105, 111, 110, 32, 98, 108, 111, 99, 107]
def relC : List UInt8 := [52, 50, 80, 48, 49]
def relT : List UInt8 := [114, 101, 108, 97, 116, 105, 111, 110, 32, 100, 111, 101, 115, 32, 110, 111, 116, 32, 101, 120, 105, 115, 116]
/-- A verdict: its code, what it says, whether there is one. -/
structure Vd where
  code : List UInt8
  text : List UInt8
  is : Bool
def vdV (d : Vd) : AV := .tup [.v (.string (strB d.code)), .v (.string (strB d.text)), .v (.bool d.is)]
def verdict (no : Bool) (v : Vb) (st : Int) : Vd :=
  if v.kind = 0 then ⟨synC, synT, true⟩ else if v.kind = 3 ∨ v.kind = 4 then ⟨[], [], false⟩ else if st = 69 then ⟨abC, abT, true⟩ else if v.kind = 1 then ⟨[], [], false⟩ else if no = true then ⟨relC, relT, true⟩ else ⟨[], [], false⟩
theorem eaborted_c (h : List (List AV)) : Contract Tryd.prog 18 [] h (.v (.string (strB abT))) h [] := by
  refine contract_of k18 mixed (by simp [c18]) fun hh hargs => ?_
  simp [c18, hh, abT]
section
variable {h : List (List AV)} {i : Nat} {T : Eg}
theorem everdict_c (ht : EgAt h i T) (s : List UInt8) (hs : s.length ≤ 9223372036854775807) (st : Int) : Contract Tryd.prog 15 [.box i 0, .v (.string (strB s)), .v (.int .u8 st)] h (vdV (verdict (T.no s) (sayQ (trimL s)) st)) h [] := by
  refine contract_of k15 mixed (by simp [c15]) fun hh hargs => ?_
  simp [c15]
  refine xcall_self (by simp) (qparse_c s hs _) ?_
  generalize sayQ (trimL s) = v
  have hm := made_c (ht.app [vbC v])
  have hr := erefuses_c (ht.app [vbC v]) s
  simp
  refine xcall_self (by simp) hm ?_
  unfold verdict
  by_cases k0 : v.kind = 0
  · simp [k0, hh, vdV, synC, synT, leqH_take]
  have k0' : (v.kind == 0) = false := by simpa using k0
  simp [k0, k0']
  refine xcall_self (by simp) (qexit_c v _) ?_
  by_cases k3 : v.kind = 3
  · simp [k3, hh, vdV, leqH_take]
  by_cases k4 : v.kind = 4
  · simp [k4, hh, vdV, leqH_take]
  have k3' : (v.kind == 3) = false := by simpa using k3
  have k4' : (v.kind == 4) = false := by simpa using k4
  simp [k3, k4, k3', k4']
  by_cases s69 : st = 69
  · simp [s69]
    refine xcall_self (by simp) (eaborted_c _) ?_
    simp [hh, vdV, abC, leqH_take]
  have s69' : (st == 69) = false := by simpa using s69
  by_cases k1 : v.kind = 1
  · simp [s69, s69', k1, hh, vdV, leqH_take]
  have k1' : (v.kind == 1) = false := by simpa using k1
  have k1n : (v.kind != 1) = true := by simpa using k1
  simp [s69, s69', k1, k1', k1n]
  refine xcall_self (by simp) hr ?_
  cases hn : T.no s with
  | true => simp [hh, vdV, relC, relT, leqH_take]
  | false => simp [hh, vdV, leqH_take]
theorem enew_c (h : List (List AV)) : Contract Tryd.prog 7 [] h (.box (h.length + 1) 0) (h ++ [mapC 0 [], egC h.length 0]) [] := by
  refine contract_of k7 mixed (by simp [c7]) fun hh hargs => ?_
  have hl := ltLL_mono (Nat.le_add_right h.length 2) hh
  simp [c7, hl, egC, mapC]
/-! ### The document's -/
variable {L : List (List UInt8)} {n : Nat}
def newE (a : Nat) : Eg := ⟨a, 0, 0, []⟩
end
end Go.Proofs.YtmdapcmdlblnnaaDoor.Ax
