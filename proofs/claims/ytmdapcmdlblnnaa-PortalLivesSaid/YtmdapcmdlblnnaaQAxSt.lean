/- Texts over values without memory: strings.Clone; the order of texts; slices.Sort of texts, in place, by the kit's contracts. -/
import Derived.Test.YtmdapcmdlblnnaaQAxXr
import Derived.Test.YtmdapcmdlblnnaaRows
import Derived.Test.YtmdapcmdlblnnaaQAxCl
import Derived.Test.YtmdapcmdlblnnaaQAxKc0
import Derived.Test.YtmdapcmdlblnnaaQAxSg
import Derived.Test.YtmdapcmdlblnnaaQAxSo
import Derived.Shelf.Strconv.Clone
/- The texts of functions over values without memory, as the kernel reckons them out of the program. -/
namespace Go.Proofs.Ytmdapcmdlblnnaa.Ax
open Go.RowKit Go By

def c25 : XFun := ⟨5, (.seq (.ops [⟨(some 2), (.assign (.const (.string (strB [])))), none⟩]) (.seq (.ops [⟨(some 3), (.move (.tmp 0)), none⟩, ⟨(some 4), (.call 35 [(.tmp 3)]), none⟩, ⟨(some 2), (.assign (.tmp 4)), none⟩]) .ret)), [(.move (.tmp 2))]⟩
theorem k25 : cfun Try.prog 25 = some c25 := by kernel_rfl
end Go.Proofs.Ytmdapcmdlblnnaa.Ax
namespace Go.Proofs.Ytmdapcmdlblnnaa.Ax
open Go.RowKit Go By Go.Sort Go.Shelf
set_option linter.unusedSimpArgs false
set_option linter.unusedVariables false

def cloneRen : Go.Shelf.Ren := ⟨fun | 316 => 35 | n => n, fun | 0 => 0 | 3 => 3 | 4 => 4 | 5 => 5 | 9 => 9 | 37 => 58 | 127 => 85 | n => n, fun | n => n⟩
theorem cloneLays : LaysM.n316 Try.prog cloneRen := {
  mixed := by kernel_rfl
  f316 := Try.func35.trans (congrArg some (by kernel_rfl))
  t0 := Try.underlying0
  a0 := Try.isAgg0
  z0 := Try.sizeOf0
  v0 := Try.zeroValue0
  t3 := Try.underlying3
  a3 := Try.isAgg3
  z3 := Try.sizeOf3
  v3 := Try.zeroValue3
  t4 := Try.underlying4
  a4 := Try.isAgg4
  z4 := Try.sizeOf4
  v4 := Try.zeroValue4
  t5 := Try.underlying5
  a5 := Try.isAgg5
  z5 := Try.sizeOf5
  v5 := Try.zeroValue5
  t9 := Try.underlying9
  a9 := Try.isAgg9
  z9 := Try.sizeOf9
  v9 := Try.zeroValue9
  t37 := Try.underlying58
  a37 := Try.isAgg58
  z37 := Try.sizeOf58
  v37 := Try.zeroValue58
  t127 := Try.underlying85
  a127 := Try.isAgg85
  z127 := Try.sizeOf85
  v127 := Try.zeroValue85
  i0 := by kernel_rfl
  i3 := by kernel_rfl
  i4 := by kernel_rfl
  i5 := by kernel_rfl
  i9 := by kernel_rfl
  i37 := by kernel_rfl
  i127 := by kernel_rfl }
theorem slclone_c (s : List UInt8) (hs : s.length ≤ 281474976710656) (h : List (List AV)) : Contract Try.prog 35 [.v (.string (strB s))] h (.v (.string (strB s))) h [] :=
  contract_blank (by kernel_rfl) rfl fun G w vs _ hv => by
    rw [plain_vals (l := [.string (strB s)]) hv]
    refine (Any.stringslite_Clone cloneLays (strB s) w (by rw [strB_size]; exact hs)).mono fun e w' he => ?_
    exact ⟨_, he.1, .v _, he.2⟩
theorem sclone_c (s : List UInt8) (hs : s.length ≤ 281474976710656) (h : List (List AV)) : Contract Try.prog 25 [.v (.string (strB s))] h (.v (.string (strB s))) h [] := by
  refine contract_of k25 mixed (by simp [c25]) fun hh hargs => ?_
  simp [c25]
  refine xcall_self (by simp) (slclone_c s hs _) ?_
  simp [hh]

/-! ### The order of texts -/
theorem bLess_eq : ∀ (x y : List UInt8), Op.bytesLess x y = decide (x < y) := Go.Proofs.bytesLess_eq
def sortS (l : List (List UInt8)) : List (List UInt8) := l.mergeSort fun x y => decide (x ≤ y)
def strV (l : List (List UInt8)) : List Value := l.map fun s => .string (strB s)
theorem sort_strs (zs : List (List UInt8)) (hz : zs.length ≤ 1000000000) : InPlace Try.prog 32 (strV zs) (strV (sortS zs)) := by
  refine ⟨enters_ofB (by kernel_rfl), by simp [strV, sortS, List.length_mergeSort], fun u hu => ?_, fun w a cap hcap hcells => ?_⟩
  · obtain ⟨n, _, rfl⟩ := List.mem_map.1 hu
    rfl
  · cases hzs : zs with
    | nil =>
      have : sortS [] = [] := by unfold sortS; simp
      rw [this]
      exact (Try.slices_Sort_string_none a cap w).mono fun e w' he => by
        obtain ⟨h1, h2⟩ := he
        subst h2
        exact ⟨h1, turned_none _ _⟩
    | cons z r =>
      rw [← hzs]
      have hne : strV zs ≠ [] := by rw [hzs]; simp [strV]
      obtain ⟨b, o, rfl, hb, hc⟩ := hcells hne
      have hH : Holds encStr w b o zs.toArray := fun j hj => by
        have hj' : j < zs.length := by simpa using hj
        have := hc j (.string (strB zs[j])) (by unfold strV; rw [List.getElem?_map, List.getElem?_eq_getElem hj']; rfl)
        have e : zs.toArray[j]! = zs[j] := by simp [hj']
        rw [e]; exact this
      have hl : (strV zs).length = zs.length := by simp [strV]
      rw [hl]
      refine (Try.slices_Sort_string b o cap zs w hH hb (by omega)).mono fun e w' he => ?_
      obtain ⟨h1, n, os, rfl⟩ := he
      refine ⟨h1, ?_⟩
      have := turned_row encStr w b o n zs.toArray (sortS zs).toArray os hb hH (by simp [sortS, List.length_mergeSort]) (by rw [hzs]; simp [sortS, List.length_mergeSort])
      exact this
/-- What is seen in any order, sorted, is the rising list. -/
theorem sorted_strs {l m : List (List UInt8)} (hl : l.Pairwise (· < ·)) (hm : m.Nodup) (h : ∀ x, x ∈ m ↔ x ∈ l) : sortS m = l := by
  have hnd : l.Nodup := hl.imp fun {a b} h e => by subst e; exact List.lt_irrefl _ h
  have hp : m.Perm l := (List.perm_ext_iff_of_nodup hm hnd).2 h
  have h1 : (sortS m).Perm l := (List.mergeSort_perm ..).trans hp
  have h2 : (sortS m).Pairwise (fun x y => decide (x ≤ y) = true) := List.pairwise_mergeSort (fun a b c h1 h2 => by simp at *; exact List.le_trans h1 h2) (fun a b => by simp; exact List.le_total a b) _
  have h3 : l.Pairwise (fun x y => decide (x ≤ y) = true) := hl.imp fun h => by simp; exact List.le_of_lt h
  exact h1.eq_of_pairwise (fun a b _ _ h1 h2 => by simp at h1 h2; exact List.le_antisymm h1 h2) h2 h3
end Go.Proofs.Ytmdapcmdlblnnaa.Ax
