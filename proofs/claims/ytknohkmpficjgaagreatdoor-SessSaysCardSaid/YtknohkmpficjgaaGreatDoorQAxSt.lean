import Derived.Test.YtknohkmpficjgaaGreatDoorQAxKc0
import Derived.Test.YtknohkmpficjgaaGreatDoorQAxMs
import Derived.Test.YtknohkmpficjgaaGreatDoorQAxSo
set_option linter.unusedSimpArgs false
set_option linter.unusedVariables false
open List renaming length_mergeSort -> Q7
namespace Go.Proofs.YtknohkmpficjgaaGreatDoor.Ax
open Go.RowKit Go By
def NS:XFun:=⟨5,.seq (.ops [oK 2 (.string (ah []))]) (.seq (.ops [oM 3 0,oC 4 145 [3],oA 2 4]) .ret),[.move (.tmp 2)]⟩
theorem jC : ai Tryz.prog 83 = some NS := by kernel_rfl
end Go.Proofs.YtknohkmpficjgaaGreatDoor.Ax
namespace Go.Proofs.YtknohkmpficjgaaGreatDoor.Ax
open Go.RowKit Go By Go.Sort Go.Shelf
def Aw : Go.Shelf.Ren := ⟨fun | 316 => 145 | n => n, fun | 0 => 0 | 3 => 3 | 4 => 4 | 5 => 5 | 9 => 9 | 37 => 77 | 127 => 255 | n => n, fun | n => n⟩
theorem yz : LaysM.n316 Tryz.prog Aw := {
 mixed := by kernel_rfl
 f316 := Tryz.func145.trans (congrArg some (by kernel_rfl))
 t0 := Tryz.underlying0
 a0 := Tryz.isAgg0
 z0 := Tryz.sizeOf0
 v0 := Tryz.zeroValue0
 t3 := Tryz.underlying3
 a3 := Tryz.isAgg3
 z3 := Tryz.sizeOf3
 v3 := Tryz.zeroValue3
 t4 := Tryz.underlying4
 a4 := Tryz.isAgg4
 z4 := Tryz.sizeOf4
 v4 := Tryz.zeroValue4
 t5 := Tryz.underlying5
 a5 := Tryz.isAgg5
 z5 := Tryz.sizeOf5
 v5 := Tryz.zeroValue5
 t9 := Tryz.underlying9
 a9 := Tryz.isAgg9
 z9 := Tryz.sizeOf9
 v9 := Tryz.zeroValue9
 t37 := Tryz.underlying77
 a37 := Tryz.isAgg77
 z37 := Tryz.sizeOf77
 v37 := Tryz.zeroValue77
 t127 := Tryz.underlying255
 a127 := Tryz.isAgg255
 z127 := Tryz.sizeOf255
 v127 := Tryz.zeroValue255
 i0 := by kernel_rfl
 i3 := by kernel_rfl
 i4 := by kernel_rfl
 i5 := by kernel_rfl
 i9 := by kernel_rfl
 i37 := by kernel_rfl
 i127 := by kernel_rfl }
theorem zE (s : List UInt8) (hs : s.length <= 281474976710656) (h : List (List AV)) : ae Tryz.prog 145 [.v (.string (ah s))] h (.v (.string (ah s))) h [] :=
 bw (by kernel_rfl) rfl fun G w vs _ hv => by
  rw [dC (l := [.string (ah s)]) hv]
  refine (Any.stringslite_Clone yz (ah s) w (by rw [cY]; exact hs)).mono fun e w' he => ?_
  exact ⟨_, he.1, .v _, he.2⟩
theorem cH (s : List UInt8) (hs : s.length <= 281474976710656) (h : List (List AV)) : ae Tryz.prog 83 [.v (.string (ah s))] h (.v (.string (ah s))) h [] := by
 refine ac jC mixed (by simp [NS]) fun hh hargs => ?_
 simp [NS]
 refine aa (by simp) (zE s hs _) ?_
 simp [hh]
def ey (l : List (List UInt8)) : List (List UInt8) := l.mergeSort fun x y => decide (x <= y)
def mY (l : List (List UInt8)) : List Value := l.map fun s => .string (ah s)
theorem zF (zs : List (List UInt8)) (hz : zs.length <= 1000000000) : rB Tryz.prog 27 (mY zs) (mY (ey zs)) := by
 refine ⟨cl (by kernel_rfl), by simp [mY, ey, Q7], fun u hu => ?_, fun w a cap hcap hcells => ?_⟩
 ·obtain ⟨n, _, rfl⟩ := List.mem_map.1 hu
  rfl
 ·cases hzs : zs with
  | nil =>
   have : ey [] = [] := by unfold ey; simp
   rw [this]
   exact (Tryz.slices_Sort_string_none a cap w).mono fun e w' he => by
    obtain ⟨h1, h2⟩ := he
    subst h2
    exact ⟨h1, uG _ _⟩
  | cons z r =>
   rw [<- hzs]
   have hne : mY zs ≠ [] := by rw [hzs]; simp [mY]
   obtain ⟨b, o, rfl, hb, hc⟩ := hcells hne
   have hH : Holds encStr w b o zs.toArray := fun j hj => by
    have hj' : j < zs.length := by simpa using hj
    have := hc j (.string (ah zs[j])) (by unfold mY; rw [List.getElem?_map, List.getElem?_eq_getElem hj']; rfl)
    have e : zs.toArray[j]! = zs[j] := by simp [hj']
    rw [e]; exact this
   have hl : (mY zs).length = zs.length := by simp [mY]
   rw [hl]
   refine (Tryz.slices_Sort_string b o cap zs w hH hb (by omega)).mono fun e w' he => ?_
   obtain ⟨h1, n, os, rfl⟩ := he
   refine ⟨h1, ?_⟩
   have := wL encStr w b o n zs.toArray (ey zs).toArray os hb hH (by simp [ey, Q7]) (by rw [hzs]; simp [ey, Q7])
   exact this
end Go.Proofs.YtknohkmpficjgaaGreatDoor.Ax
