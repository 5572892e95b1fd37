/- slices.Sort of numbers, in place, by the kit's contract. -/
import Derived.Shelf.Sort.Plain
import Derived.Shelf.Slices.In.SortNone
import Derived.Test.YtngkdlfgmpflnaaProg
import Derived.Test.YtngkdlfgmpflnaaQAxIb
/- Contracts of Go's library, laid at this program by the kit's shelf (plain words): slices_Sort_int, slices_Sort_int_none. -/
namespace Go.Proofs
open Go.Shelf Go.RowKit Go.Lib Go.Sort
def Try.lays189_ren : Go.Shelf.Ren := ⟨fun | 189 => 59 | 125 => 69 | 257 => 68 | 128 => 84 | 129 => 85 | 294 => 75 | 295 => 76 | 296 => 77 | 297 => 78 | 298 => 79 | 299 => 80 | 216 => 81 | 300 => 82 | 301 => 83 | 328 => 86 | 329 => 87 | 330 => 88 | 331 => 89 | 332 => 90 | 215 => 91 | 343 => 92 | n => n, fun | 28 => 40 | 3 => 3 | 46 => 29 | 0 => 0 | 51 => 28 | 53 => 102 | 4 => 4 | 183 => 96 | 182 => 95 | 131 => 23 | 5 => 5 | 9 => 9 | 218 => 103 | 222 => 107 | 228 => 109 | 229 => 110 | n => n, fun | n => n⟩
theorem Try.lays189 : Go.Proofs.Lays.n189 Try.prog Try.lays189_ren := {
  mixed := by kernel_rfl
  f125 := Try.func69.trans (congrArg some (by kernel_rfl))
  f128 := Try.func84.trans (congrArg some (by kernel_rfl))
  f129 := Try.func85.trans (congrArg some (by kernel_rfl))
  f189 := Try.func59.trans (congrArg some (by kernel_rfl))
  f215 := Try.func91.trans (congrArg some (by kernel_rfl))
  f216 := Try.func81.trans (congrArg some (by kernel_rfl))
  f257 := Try.func68.trans (congrArg some (by kernel_rfl))
  f294 := Try.func75.trans (congrArg some (by kernel_rfl))
  f295 := Try.func76.trans (congrArg some (by kernel_rfl))
  f296 := Try.func77.trans (congrArg some (by kernel_rfl))
  f297 := Try.func78.trans (congrArg some (by kernel_rfl))
  f298 := Try.func79.trans (congrArg some (by kernel_rfl))
  f299 := Try.func80.trans (congrArg some (by kernel_rfl))
  f300 := Try.func82.trans (congrArg some (by kernel_rfl))
  f301 := Try.func83.trans (congrArg some (by kernel_rfl))
  f328 := Try.func86.trans (congrArg some (by kernel_rfl))
  f329 := Try.func87.trans (congrArg some (by kernel_rfl))
  f330 := Try.func88.trans (congrArg some (by kernel_rfl))
  f331 := Try.func89.trans (congrArg some (by kernel_rfl))
  f332 := Try.func90.trans (congrArg some (by kernel_rfl))
  f343 := Try.func92.trans (congrArg some (by kernel_rfl))
  t0 := Try.underlying0
  a0 := Try.isAgg0
  z0 := Try.sizeOf0
  v0 := Try.zeroValue0
  t3 := Try.underlying3
  a3 := Try.isAgg3
  z3 := Try.sizeOf3
  v3 := Try.zeroValue3
  t4 := Try.underlying4
  a4 := Try.isAgg4
  z4 := Try.sizeOf4
  v4 := Try.zeroValue4
  t5 := Try.underlying5
  a5 := Try.isAgg5
  z5 := Try.sizeOf5
  v5 := Try.zeroValue5
  t9 := Try.underlying9
  a9 := Try.isAgg9
  z9 := Try.sizeOf9
  v9 := Try.zeroValue9
  t28 := Try.underlying40
  a28 := Try.isAgg40
  z28 := Try.sizeOf40
  v28 := Try.zeroValue40
  t46 := Try.underlying29
  a46 := Try.isAgg29
  z46 := Try.sizeOf29
  v46 := Try.zeroValue29
  t51 := Try.underlying28
  a51 := Try.isAgg28
  z51 := Try.sizeOf28
  v51 := Try.zeroValue28
  t53 := Try.underlying102
  a53 := Try.isAgg102
  z53 := Try.sizeOf102
  v53 := Try.zeroValue102
  t131 := Try.underlying23
  a131 := Try.isAgg23
  z131 := Try.sizeOf23
  v131 := Try.zeroValue23
  t182 := Try.underlying95
  a182 := Try.isAgg95
  z182 := Try.sizeOf95
  v182 := Try.zeroValue95
  t183 := Try.underlying96
  a183 := Try.isAgg96
  z183 := Try.sizeOf96
  v183 := Try.zeroValue96
  t218 := Try.underlying103
  a218 := Try.isAgg103
  z218 := Try.sizeOf103
  v218 := Try.zeroValue103
  t222 := Try.underlying107
  a222 := Try.isAgg107
  z222 := Try.sizeOf107
  v222 := Try.zeroValue107
  t228 := Try.underlying109
  a228 := Try.isAgg109
  z228 := Try.sizeOf109
  v228 := Try.zeroValue109
  t229 := Try.underlying110
  a229 := Try.isAgg110
  z229 := Try.sizeOf110
  v229 := Try.zeroValue110 }
theorem Try.slices_Sort_int (blk off cap : Nat) (zs : List Int) (w : World) (hH : Holds (Value.int .i64) w blk off zs.toArray) (hblk : blk < w.heap.size) (hsz : zs.length < 4611686018427387904) :
    Calls Try.prog 59 #[.slice (some ⟨blk, off, none⟩) zs.length cap] w fun e w' =>
      e = .returned (.tuple #[]) ∧ ∃ n os, w' = grow (putRow (Value.int .i64) (Sort.ahead w n) blk off (zs.mergeSort fun x y => decide (x ≤ y)).toArray) os := Any.slices_Sort_int Try.lays189 blk off cap zs w hH hblk hsz
theorem Try.slices_Sort_int_none (p : Option Addr) (cap : Nat) (w : World) :
    Calls Try.prog 59 #[.slice p 0 cap] w fun e w' => e = .returned (.tuple #[]) ∧ w' = w := Any.slices_Sort_int_none Try.lays189 p cap w
end Go.Proofs
namespace Go.Proofs.Ytngkdlfgmpflnaa.Ax
open Go.RowKit Go By Go.Sort
set_option linter.unusedSimpArgs false
set_option linter.unusedVariables false

/-- A row is put, blocks are made: nothing else turns. -/
theorem turned_row {α : Type} [Inhabited α] (enc : α → Value) (w : World) (b o n : Nat) (d0 d : Array α) (os : Array Obj) (hb : b < w.heap.size) (h0 : Holds enc w b o d0) (hs : d.size = d0.size) (hpos : 0 < d.size) :
    Turned w (grow (putRow enc (Sort.ahead w n) b o d) os) (some ⟨b, o, none⟩) (d.toList.map enc) := by
  obtain ⟨c, e, fr, hc, _⟩ := cells_of_cell? (h0 0 (by omega)).1
  have hsz : (putRow enc (Sort.ahead w n) b o d).heap.size = w.heap.size := by rw [size_putRow]; rfl
  have hother : ∀ k, k < w.heap.size → k ≠ b → (grow (putRow enc (Sort.ahead w n) b o d) os).heap[k]? = w.heap[k]? := fun k hk hne => by
    rw [heap_grow_old _ _ (by rw [hsz]; exact hk)]
    show (w.heap.modify b _)[k]? = _
    rw [Array.getElem?_modify, if_neg (fun e => hne e.symm)]
  have hcell : ∀ j, (grow (putRow enc (Sort.ahead w n) b o d) os).cell? ⟨b, j, none⟩ = (putCells enc o d c)[j]? := fun j => by
    rw [cell?_grow _ _ _ (by rw [hsz]; exact hb)]
    exact cell?_mapBlock (Sort.ahead w n) b j (putCells enc o d) hc
  have hwc : ∀ j, w.cell? ⟨b, j, none⟩ = c[j]? := fun j => cell_of_row w b j c e fr hc
  refine ⟨⟨by rw [size_grow, hsz]; omega, fun k o' hk ho => ?_⟩, rfl, rfl, rfl, fun k hk hne => hother k hk (hne b o rfl), fun b' o' e j => ?_⟩
  · have hkb : k ≠ b := fun e => by subst e; rw [hc] at hk; injection hk with hk; subst hk; cases ho
    rw [hother k (Array.getElem?_eq_some_iff.1 hk).1 hkb]; exact hk
  · injection e with e
    injection e with e1 e2
    subst e1 e2
    refine ⟨?_, ?_⟩
    · rw [frozen?_grow _ _ _ (by rw [hsz]; exact hb), frozen?_putRow]; rfl
    · rw [hcell j, hwc j, List.length_map, Array.length_toList]
      unfold putCells
      rw [Array.getElem?_mapIdx]
      split
      · rename_i hin
        have hj := (h0 (j - o) (by omega)).1
        rw [show o + (j - o) = j by omega, hwc j] at hj
        rw [hj]
        have hlt : j - o < d.size := by omega
        simp [hin, hlt]
      · rename_i hin
        cases hx : c[j]? with
        | none => rfl
        | some x =>
          simp only [Option.map_some, if_neg hin]
theorem turned_none (w : World) (a : Option Addr) : Turned w w a [] := ⟨KeepsOthers.refl w, rfl, rfl, rfl, fun _ _ _ => rfl, fun b o _ j => ⟨rfl, by rw [if_neg (by simp)]⟩⟩
def ints64 (l : List Int) : List Value := l.map (Value.int .i64)
def sortI (l : List Int) : List Int := l.mergeSort fun x y => decide (x ≤ y)
theorem sort_ints (zs : List Int) (hz : zs.length ≤ 1000000000) : InPlace Try.prog 59 (ints64 zs) (ints64 (sortI zs)) := by
  refine ⟨enters_ofB (by kernel_rfl), by simp [ints64, sortI, List.length_mergeSort], fun u hu => ?_, fun w a cap hcap hcells => ?_⟩
  · obtain ⟨n, _, rfl⟩ := List.mem_map.1 hu
    rfl
  · cases hzs : zs with
    | nil =>
      have : sortI [] = [] := by unfold sortI; simp
      rw [this]
      exact (Try.slices_Sort_int_none a cap w).mono fun e w' he => by
        obtain ⟨h1, h2⟩ := he
        subst h2
        exact ⟨h1, turned_none _ _⟩
    | cons z r =>
      rw [← hzs]
      have hne : ints64 zs ≠ [] := by rw [hzs]; simp [ints64]
      obtain ⟨b, o, rfl, hb, hc⟩ := hcells hne
      have hH : Holds (Value.int .i64) w b o zs.toArray := fun j hj => by
        have hj' : j < zs.length := by simpa using hj
        have := hc j (.int .i64 zs[j]) (by unfold ints64; rw [List.getElem?_map, List.getElem?_eq_getElem hj']; rfl)
        have e : zs.toArray[j]! = zs[j] := by simp [hj']
        rw [e]; exact this
      have hl : (ints64 zs).length = zs.length := by simp [ints64]
      rw [hl]
      refine (Try.slices_Sort_int b o cap zs w hH hb (by omega)).mono fun e w' he => ?_
      obtain ⟨h1, n, os, rfl⟩ := he
      refine ⟨h1, ?_⟩
      have := turned_row (Value.int .i64) w b o n zs.toArray (sortI zs).toArray os hb hH (by simp [sortI, List.length_mergeSort]) (by rw [hzs]; simp [sortI, List.length_mergeSort])
      exact this
end Go.Proofs.Ytngkdlfgmpflnaa.Ax
