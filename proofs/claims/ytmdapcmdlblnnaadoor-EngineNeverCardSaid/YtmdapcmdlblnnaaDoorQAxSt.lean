/- Texts over values without memory: strings.Clone; the order of texts; slices.Sort of texts, in place, by the kit's contracts. -/
import Derived.Test.YtmdapcmdlblnnaaDoorQAxXr
import Derived.Test.YtmdapcmdlblnnaaDoorRows
import Derived.Test.YtmdapcmdlblnnaaDoorQAxSo
import Derived.Test.YtmdapcmdlblnnaaDoorQAxDg
import Derived.Test.YtmdapcmdlblnnaaDoorQAxMs
import Derived.Shelf.Strconv.Clone
/- The texts of functions over values without memory, as the kernel reckons them out of the program. -/
namespace Go.Proofs.YtmdapcmdlblnnaaDoor.Ax
open Go.RowKit Go By

def c23 : XFun := ⟨5, (.seq (.ops [⟨(some 2), (.assign (.const (.string (strB [])))), none⟩]) (.seq (.ops [⟨(some 3), (.move (.tmp 0)), none⟩, ⟨(some 4), (.call 37 [(.tmp 3)]), none⟩, ⟨(some 2), (.assign (.tmp 4)), none⟩]) .ret)), [(.move (.tmp 2))]⟩
theorem k23 : cfun Tryd.prog 23 = some c23 := by kernel_rfl
end Go.Proofs.YtmdapcmdlblnnaaDoor.Ax
namespace Go.Proofs.YtmdapcmdlblnnaaDoor.Ax
open Go.RowKit Go By Go.Sort Go.Shelf
set_option linter.unusedSimpArgs false
set_option linter.unusedVariables false

def cloneRen : Go.Shelf.Ren := ⟨fun | 316 => 37 | n => n, fun | 0 => 0 | 3 => 3 | 4 => 4 | 5 => 5 | 9 => 9 | 37 => 59 | 127 => 84 | n => n, fun | n => n⟩
theorem cloneLays : LaysM.n316 Tryd.prog cloneRen := {
  mixed := by kernel_rfl
  f316 := Tryd.func37.trans (congrArg some (by kernel_rfl))
  t0 := Tryd.underlying0
  a0 := Tryd.isAgg0
  z0 := Tryd.sizeOf0
  v0 := Tryd.zeroValue0
  t3 := Tryd.underlying3
  a3 := Tryd.isAgg3
  z3 := Tryd.sizeOf3
  v3 := Tryd.zeroValue3
  t4 := Tryd.underlying4
  a4 := Tryd.isAgg4
  z4 := Tryd.sizeOf4
  v4 := Tryd.zeroValue4
  t5 := Tryd.underlying5
  a5 := Tryd.isAgg5
  z5 := Tryd.sizeOf5
  v5 := Tryd.zeroValue5
  t9 := Tryd.underlying9
  a9 := Tryd.isAgg9
  z9 := Tryd.sizeOf9
  v9 := Tryd.zeroValue9
  t37 := Tryd.underlying59
  a37 := Tryd.isAgg59
  z37 := Tryd.sizeOf59
  v37 := Tryd.zeroValue59
  t127 := Tryd.underlying84
  a127 := Tryd.isAgg84
  z127 := Tryd.sizeOf84
  v127 := Tryd.zeroValue84
  i0 := by kernel_rfl
  i3 := by kernel_rfl
  i4 := by kernel_rfl
  i5 := by kernel_rfl
  i9 := by kernel_rfl
  i37 := by kernel_rfl
  i127 := by kernel_rfl }
theorem slclone_c (s : List UInt8) (hs : s.length ≤ 281474976710656) (h : List (List AV)) : Contract Tryd.prog 37 [.v (.string (strB s))] h (.v (.string (strB s))) h [] :=
  contract_blank (by kernel_rfl) rfl fun G w vs _ hv => by
    rw [plain_vals (l := [.string (strB s)]) hv]
    refine (Any.stringslite_Clone cloneLays (strB s) w (by rw [strB_size]; exact hs)).mono fun e w' he => ?_
    exact ⟨_, he.1, .v _, he.2⟩
theorem sclone_c (s : List UInt8) (hs : s.length ≤ 281474976710656) (h : List (List AV)) : Contract Tryd.prog 23 [.v (.string (strB s))] h (.v (.string (strB s))) h [] := by
  refine contract_of k23 mixed (by simp [c23]) fun hh hargs => ?_
  simp [c23]
  refine xcall_self (by simp) (slclone_c s hs _) ?_
  simp [hh]

/-! ### The order of texts -/
end Go.Proofs.YtmdapcmdlblnnaaDoor.Ax
