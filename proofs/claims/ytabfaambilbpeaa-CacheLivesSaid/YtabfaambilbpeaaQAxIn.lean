/- Lists of numbers in variables, over values without memory: what Go's library makes of them, by the kit's contracts. -/
import Derived.Shelf.Sort.Plain
import Derived.Shelf.Slices.In.SortNone
import Derived.Shelf.Slices.Turned
import Derived.Shelf.Slices.Delete
import Derived.Shelf.Slices.Clone
import Derived.Shelf.Slices.CompactI
import Derived.Test.YtabfaambilbpeaaProg
import Derived.Test.YtabfaambilbpeaaQAxIp
/- Contracts of Go's library, laid at this program by the kit's shelf (plain words): slices_Sort_int, slices_Sort_int_none, slices_Index_int, slices_Index_int_empty, slices_Contains_int, slices_Contains_int_empty, slices_Clone_int, slices_Clone_int_nil, slices_Clone_int_zero, slices_Compact_int, slices_Compact_int_empty, slices_Delete_int. -/
namespace Go.Proofs
open Go.Shelf Go.RowKit Go.Lib Go.Sort
def Try.lays189_ren : Go.Shelf.Ren := ⟨fun | 189 => 25 | 125 => 45 | 257 => 44 | 128 => 63 | 129 => 64 | 294 => 54 | 295 => 55 | 296 => 56 | 297 => 57 | 298 => 58 | 299 => 59 | 216 => 60 | 300 => 61 | 301 => 62 | 328 => 69 | 329 => 70 | 330 => 71 | 331 => 72 | 332 => 73 | 215 => 74 | 343 => 76 | n => n, fun | 28 => 37 | 3 => 3 | 46 => 78 | 0 => 0 | 51 => 96 | 53 => 98 | 4 => 4 | 183 => 89 | 182 => 88 | 131 => 34 | 5 => 5 | 9 => 9 | 218 => 102 | 222 => 106 | 228 => 108 | 229 => 109 | n => n, fun | n => n⟩
theorem Try.lays189 : Go.Proofs.Lays.n189 Try.prog Try.lays189_ren := {
  mixed := by kernel_rfl
  f125 := Try.func45.trans (congrArg some (by kernel_rfl))
  f128 := Try.func63.trans (congrArg some (by kernel_rfl))
  f129 := Try.func64.trans (congrArg some (by kernel_rfl))
  f189 := Try.func25.trans (congrArg some (by kernel_rfl))
  f215 := Try.func74.trans (congrArg some (by kernel_rfl))
  f216 := Try.func60.trans (congrArg some (by kernel_rfl))
  f257 := Try.func44.trans (congrArg some (by kernel_rfl))
  f294 := Try.func54.trans (congrArg some (by kernel_rfl))
  f295 := Try.func55.trans (congrArg some (by kernel_rfl))
  f296 := Try.func56.trans (congrArg some (by kernel_rfl))
  f297 := Try.func57.trans (congrArg some (by kernel_rfl))
  f298 := Try.func58.trans (congrArg some (by kernel_rfl))
  f299 := Try.func59.trans (congrArg some (by kernel_rfl))
  f300 := Try.func61.trans (congrArg some (by kernel_rfl))
  f301 := Try.func62.trans (congrArg some (by kernel_rfl))
  f328 := Try.func69.trans (congrArg some (by kernel_rfl))
  f329 := Try.func70.trans (congrArg some (by kernel_rfl))
  f330 := Try.func71.trans (congrArg some (by kernel_rfl))
  f331 := Try.func72.trans (congrArg some (by kernel_rfl))
  f332 := Try.func73.trans (congrArg some (by kernel_rfl))
  f343 := Try.func76.trans (congrArg some (by kernel_rfl))
  t0 := Try.underlying0
  a0 := Try.isAgg0
  z0 := Try.sizeOf0
  v0 := Try.zeroValue0
  t3 := Try.underlying3
  a3 := Try.isAgg3
  z3 := Try.sizeOf3
  v3 := Try.zeroValue3
  t4 := Try.underlying4
  a4 := Try.isAgg4
  z4 := Try.sizeOf4
  v4 := Try.zeroValue4
  t5 := Try.underlying5
  a5 := Try.isAgg5
  z5 := Try.sizeOf5
  v5 := Try.zeroValue5
  t9 := Try.underlying9
  a9 := Try.isAgg9
  z9 := Try.sizeOf9
  v9 := Try.zeroValue9
  t28 := Try.underlying37
  a28 := Try.isAgg37
  z28 := Try.sizeOf37
  v28 := Try.zeroValue37
  t46 := Try.underlying78
  a46 := Try.isAgg78
  z46 := Try.sizeOf78
  v46 := Try.zeroValue78
  t51 := Try.underlying96
  a51 := Try.isAgg96
  z51 := Try.sizeOf96
  v51 := Try.zeroValue96
  t53 := Try.underlying98
  a53 := Try.isAgg98
  z53 := Try.sizeOf98
  v53 := Try.zeroValue98
  t131 := Try.underlying34
  a131 := Try.isAgg34
  z131 := Try.sizeOf34
  v131 := Try.zeroValue34
  t182 := Try.underlying88
  a182 := Try.isAgg88
  z182 := Try.sizeOf88
  v182 := Try.zeroValue88
  t183 := Try.underlying89
  a183 := Try.isAgg89
  z183 := Try.sizeOf89
  v183 := Try.zeroValue89
  t218 := Try.underlying102
  a218 := Try.isAgg102
  z218 := Try.sizeOf102
  v218 := Try.zeroValue102
  t222 := Try.underlying106
  a222 := Try.isAgg106
  z222 := Try.sizeOf106
  v222 := Try.zeroValue106
  t228 := Try.underlying108
  a228 := Try.isAgg108
  z228 := Try.sizeOf108
  v228 := Try.zeroValue108
  t229 := Try.underlying109
  a229 := Try.isAgg109
  z229 := Try.sizeOf109
  v229 := Try.zeroValue109 }
theorem Try.slices_Sort_int (blk off cap : Nat) (zs : List Int) (w : World) (hH : Holds (Value.int .i64) w blk off zs.toArray) (hblk : blk < w.heap.size) (hsz : zs.length < 4611686018427387904) :
    Calls Try.prog 25 #[.slice (some ⟨blk, off, none⟩) zs.length cap] w fun e w' =>
      e = .returned (.tuple #[]) ∧ ∃ n os, w' = grow (putRow (Value.int .i64) (Sort.ahead w n) blk off (zs.mergeSort fun x y => decide (x ≤ y)).toArray) os := Any.slices_Sort_int Try.lays189 blk off cap zs w hH hblk hsz
def Try.lays108_ren : Go.Shelf.Ren := ⟨fun | 108 => 53 | n => n, fun | 28 => 37 | 3 => 3 | 0 => 0 | 4 => 4 | n => n, fun | n => n⟩
theorem Try.lays108 : Go.Proofs.Lays.n108 Try.prog Try.lays108_ren := {
  mixed := by kernel_rfl
  f108 := Try.func53.trans (congrArg some (by kernel_rfl))
  t0 := Try.underlying0
  a0 := Try.isAgg0
  z0 := Try.sizeOf0
  v0 := Try.zeroValue0
  t3 := Try.underlying3
  a3 := Try.isAgg3
  z3 := Try.sizeOf3
  v3 := Try.zeroValue3
  t4 := Try.underlying4
  a4 := Try.isAgg4
  z4 := Try.sizeOf4
  v4 := Try.zeroValue4
  t28 := Try.underlying37
  a28 := Try.isAgg37
  z28 := Try.sizeOf37
  v28 := Try.zeroValue37 }
theorem Try.slices_Index_int (b off n c : Nat) (zs : List Int) (x : Int) (w : World) (hz : n ≤ zs.length) (hbig : n ≤ 9223372036854775807) (hc : ∀ j, j < zs.length → w.cell? ⟨b, off + j, none⟩ = some (.int .i64 (zs.getD j 0))) :
    Calls Try.prog 53 #[.slice (some ⟨b, off, none⟩) n c, .int .i64 x] w fun e w' => e = .returned (.int .i64 (Lib.idxOf (zs.take n) x)) ∧ w' = w := Any.slices_Index_int Try.lays108 b off n c zs x w hz hbig hc
theorem Try.slices_Index_int_empty (a : Option Addr) (c : Nat) (x : Int) (w : World) :
    Calls Try.prog 53 #[.slice a 0 c, .int .i64 x] w fun e w' => e = .returned (.int .i64 (Lib.idxOf [] x)) ∧ w' = w := Any.slices_Index_int_empty Try.lays108 a c x w
def Try.lays107_ren : Go.Shelf.Ren := ⟨fun | 107 => 40 | 108 => 53 | n => n, fun | 28 => 37 | 3 => 3 | 4 => 4 | 0 => 0 | n => n, fun | n => n⟩
theorem Try.lays107 : Go.Proofs.Lays.n107 Try.prog Try.lays107_ren := {
  mixed := by kernel_rfl
  f107 := Try.func40.trans (congrArg some (by kernel_rfl))
  f108 := Try.func53.trans (congrArg some (by kernel_rfl))
  t0 := Try.underlying0
  a0 := Try.isAgg0
  z0 := Try.sizeOf0
  v0 := Try.zeroValue0
  t3 := Try.underlying3
  a3 := Try.isAgg3
  z3 := Try.sizeOf3
  v3 := Try.zeroValue3
  t4 := Try.underlying4
  a4 := Try.isAgg4
  z4 := Try.sizeOf4
  v4 := Try.zeroValue4
  t28 := Try.underlying37
  a28 := Try.isAgg37
  z28 := Try.sizeOf37
  v28 := Try.zeroValue37 }
theorem Try.slices_Contains_int (b off n c : Nat) (zs : List Int) (x : Int) (w : World) (hz : n ≤ zs.length) (hbig : n ≤ 9223372036854775807) (hc : ∀ j, j < zs.length → w.cell? ⟨b, off + j, none⟩ = some (.int .i64 (zs.getD j 0))) :
    Calls Try.prog 40 #[.slice (some ⟨b, off, none⟩) n c, .int .i64 x] w fun e w' => e = .returned (.bool ((zs.take n).contains x)) ∧ w' = w := Any.slices_Contains_int Try.lays107 b off n c zs x w hz hbig hc
theorem Try.slices_Contains_int_empty (a : Option Addr) (c : Nat) (x : Int) (w : World) :
    Calls Try.prog 40 #[.slice a 0 c, .int .i64 x] w fun e w' => e = .returned (.bool false) ∧ w' = w := Any.slices_Contains_int_empty Try.lays107 a c x w
def Try.laysNm215_ren : Go.Shelf.Ren := ⟨fun | 15 => 43 | n => n, fun | 22 => 37 | 3 => 3 | 4 => 4 | n => n, fun | n => n⟩
theorem Try.laysNm215 : Go.Proofs.Lays2.n15 Try.prog Try.laysNm215_ren := {
  mixed := by kernel_rfl
  f15 := Try.func43.trans (congrArg some (by kernel_rfl))
  t3 := Try.underlying3
  a3 := Try.isAgg3
  z3 := Try.sizeOf3
  v3 := Try.zeroValue3
  t4 := Try.underlying4
  a4 := Try.isAgg4
  z4 := Try.sizeOf4
  v4 := Try.zeroValue4
  t22 := Try.underlying37
  a22 := Try.isAgg37
  z22 := Try.sizeOf37
  v22 := Try.zeroValue37
  i3 := by kernel_rfl }
theorem Try.slices_Clone_int (b off n c : Nat) (zs : List Int) (w : World) (hz : n ≤ zs.length) (hbig : n * 8 ≤ 140737488355328) (hc : ∀ j, j < zs.length → w.cell? ⟨b, off + j, none⟩ = some (.int .i64 (zs.getD j 0))) :
    Calls Try.prog 43 #[.slice (some ⟨b, off, none⟩) n c] w fun e w' => ∃ v', e = .returned v' ∧ w'.ownsRow w.heap.size 3 1 v' n ((zs.take n).map (Value.int .i64)) ∧ v' ≠ .slice none 0 0 ∧ Below w.heap.size w w' := Any.slices_Clone_int Try.laysNm215 b off n c zs w hz hbig hc
theorem Try.slices_Clone_int_nil (n c : Nat) (w : World) :
    Calls Try.prog 43 #[.slice none n c] w fun e w' => e = .returned (.slice none 0 0) ∧ w' = w := Any.slices_Clone_int_nil Try.laysNm215 n c w
theorem Try.slices_Clone_int_zero (a : Addr) (c : Nat) (w : World) :
    Calls Try.prog 43 #[.slice (some a) 0 c] w fun e w' => ∃ v', e = .returned v' ∧ w'.ownsRow w.heap.size 3 1 v' 0 [] ∧ v' ≠ .slice none 0 0 ∧ Below w.heap.size w w' := Any.slices_Clone_int_zero Try.laysNm215 a c w
def Try.laysNm220_ren : Go.Shelf.Ren := ⟨fun | 20 => 26 | n => n, fun | 22 => 37 | 3 => 3 | 4 => 4 | 0 => 0 | n => n, fun | n => n⟩
theorem Try.laysNm220 : Go.Proofs.Lays2.n20 Try.prog Try.laysNm220_ren := {
  mixed := by kernel_rfl
  f20 := Try.func26.trans (congrArg some (by kernel_rfl))
  t0 := Try.underlying0
  a0 := Try.isAgg0
  z0 := Try.sizeOf0
  v0 := Try.zeroValue0
  t3 := Try.underlying3
  a3 := Try.isAgg3
  z3 := Try.sizeOf3
  v3 := Try.zeroValue3
  t4 := Try.underlying4
  a4 := Try.isAgg4
  z4 := Try.sizeOf4
  v4 := Try.zeroValue4
  t22 := Try.underlying37
  a22 := Try.isAgg37
  z22 := Try.sizeOf37
  v22 := Try.zeroValue37
  i3 := by kernel_rfl }
theorem Try.slices_Compact_int (blk off cap : Nat) (zs : List Int) (w : World) (hH : Holds (Value.int .i64) w blk off zs.toArray) (hsz : zs.length ≤ 9223372036854775807) (hcap : zs.length ≤ cap) :
    Calls Try.prog 26 #[.slice (some ⟨blk, off, none⟩) zs.length cap] w fun e w' => e = .returned (.slice (some ⟨blk, off, none⟩) (Lib.compact zs).length cap) ∧ ∃ q, w' = putRow (Value.int .i64) (Sort.ahead w q) blk off (Lib.compact zs ++ List.replicate (zs.length - (Lib.compact zs).length) 0).toArray := Any.slices_Compact_int Try.laysNm220 blk off cap zs w hH hsz hcap
theorem Try.slices_Compact_int_empty (a : Option Addr) (cap : Nat) (w : World) :
    Calls Try.prog 26 #[.slice a 0 cap] w fun e w' => e = .returned (.slice a 0 cap) ∧ w' = w := Any.slices_Compact_int_empty Try.laysNm220 a cap w
def Try.laysNm223_ren : Go.Shelf.Ren := ⟨fun | 23 => 42 | n => n, fun | 22 => 37 | 3 => 3 | 4 => 4 | 0 => 0 | n => n, fun | n => n⟩
theorem Try.laysNm223 : Go.Proofs.Lays2.n23 Try.prog Try.laysNm223_ren := {
  mixed := by kernel_rfl
  f23 := Try.func42.trans (congrArg some (by kernel_rfl))
  t0 := Try.underlying0
  a0 := Try.isAgg0
  z0 := Try.sizeOf0
  v0 := Try.zeroValue0
  t3 := Try.underlying3
  a3 := Try.isAgg3
  z3 := Try.sizeOf3
  v3 := Try.zeroValue3
  t4 := Try.underlying4
  a4 := Try.isAgg4
  z4 := Try.sizeOf4
  v4 := Try.zeroValue4
  t22 := Try.underlying37
  a22 := Try.isAgg37
  z22 := Try.sizeOf37
  v22 := Try.zeroValue37
  i3 := by kernel_rfl }
theorem Try.slices_Delete_int (blk off cap i j : Nat) (zs : List Int) (w : World) (hH : Holds (Value.int .i64) w blk off zs.toArray) (hcap : zs.length ≤ cap) (hm : cap ≤ 9223372036854775807) (hij : i ≤ j) (hj : j ≤ zs.length) :
    Calls Try.prog 42 #[.slice (some ⟨blk, off, none⟩) zs.length cap, .int .i64 i, .int .i64 j] w fun e w' => e = .returned (.slice (some ⟨blk, off, none⟩) (zs.length - (j - i)) cap) ∧ ∃ q, w' = putRow (Value.int .i64) (Sort.ahead w q) blk off (zs.take i ++ zs.drop j ++ List.replicate (j - i) 0).toArray := Any.slices_Delete_int Try.laysNm223 blk off cap i j zs w hH hcap hm hij hj
theorem Try.slices_Sort_int_none (p : Option Addr) (cap : Nat) (w : World) :
    Calls Try.prog 25 #[.slice p 0 cap] w fun e w' => e = .returned (.tuple #[]) ∧ w' = w := Any.slices_Sort_int_none Try.lays189 p cap w
end Go.Proofs
/- slices.Sort of numbers, in place, by the kit's contract. -/
namespace Go.Proofs.Ytabfaambilbpeaa.Ax
open Go.RowKit Go By Go.Sort
set_option linter.unusedSimpArgs false
set_option linter.unusedVariables false

/-- A row is put, blocks are made: nothing else turns. -/
theorem turned_row {α : Type} [Inhabited α] (enc : α → Value) (w : World) (b o n : Nat) (d0 d : Array α) (os : Array Obj) (hb : b < w.heap.size) (h0 : Holds enc w b o d0) (hs : d.size = d0.size) (hpos : 0 < d.size) :
    Turned w (grow (putRow enc (Sort.ahead w n) b o d) os) (some ⟨b, o, none⟩) (d.toList.map enc) := by
  obtain ⟨c, e, fr, hc, _⟩ := cells_of_cell? (h0 0 (by omega)).1
  have hsz : (putRow enc (Sort.ahead w n) b o d).heap.size = w.heap.size := by rw [size_putRow]; rfl
  have hother : ∀ k, k < w.heap.size → k ≠ b → (grow (putRow enc (Sort.ahead w n) b o d) os).heap[k]? = w.heap[k]? := fun k hk hne => by
    rw [heap_grow_old _ _ (by rw [hsz]; exact hk)]
    show (w.heap.modify b _)[k]? = _
    rw [Array.getElem?_modify, if_neg (fun e => hne e.symm)]
  have hcell : ∀ j, (grow (putRow enc (Sort.ahead w n) b o d) os).cell? ⟨b, j, none⟩ = (putCells enc o d c)[j]? := fun j => by
    rw [cell?_grow _ _ _ (by rw [hsz]; exact hb)]
    exact cell?_mapBlock (Sort.ahead w n) b j (putCells enc o d) hc
  have hwc : ∀ j, w.cell? ⟨b, j, none⟩ = c[j]? := fun j => cell_of_row w b j c e fr hc
  refine ⟨⟨by rw [size_grow, hsz]; omega, fun k o' hk ho => ?_⟩, rfl, rfl, rfl, fun k hk hne => hother k hk (hne b o rfl), fun b' o' e j => ?_⟩
  · have hkb : k ≠ b := fun e => by subst e; rw [hc] at hk; injection hk with hk; subst hk; cases ho
    rw [hother k (Array.getElem?_eq_some_iff.1 hk).1 hkb]; exact hk
  · injection e with e
    injection e with e1 e2
    subst e1 e2
    refine ⟨?_, ?_⟩
    · rw [frozen?_grow _ _ _ (by rw [hsz]; exact hb), frozen?_putRow]; rfl
    · rw [hcell j, hwc j, List.length_map, Array.length_toList]
      unfold putCells
      rw [Array.getElem?_mapIdx]
      split
      · rename_i hin
        have hj := (h0 (j - o) (by omega)).1
        rw [show o + (j - o) = j by omega, hwc j] at hj
        rw [hj]
        have hlt : j - o < d.size := by omega
        simp [hin, hlt]
      · rename_i hin
        cases hx : c[j]? with
        | none => rfl
        | some x =>
          simp only [Option.map_some, if_neg hin]
theorem turned_none (w : World) (a : Option Addr) : Turned w w a [] := ⟨KeepsOthers.refl w, rfl, rfl, rfl, fun _ _ _ => rfl, fun b o _ j => ⟨rfl, by rw [if_neg (by simp)]⟩⟩
def sortI (l : List Int) : List Int := l.mergeSort fun x y => decide (x ≤ y)
theorem sort_ints (zs : List Int) (hz : zs.length ≤ 1000000000) : InPlace Try.prog 25 (ints64 zs) (ints64 (sortI zs)) := by
  refine ⟨enters_ofB (by kernel_rfl), by simp [ints64, sortI, List.length_mergeSort], fun u hu => ?_, fun w a cap hcap hcells => ?_⟩
  · obtain ⟨n, _, rfl⟩ := List.mem_map.1 hu
    rfl
  · cases hzs : zs with
    | nil =>
      have : sortI [] = [] := by unfold sortI; simp
      rw [this]
      exact (Try.slices_Sort_int_none a cap w).mono fun e w' he => by
        obtain ⟨h1, h2⟩ := he
        subst h2
        exact ⟨h1, turned_none _ _⟩
    | cons z r =>
      rw [← hzs]
      have hne : ints64 zs ≠ [] := by rw [hzs]; simp [ints64]
      obtain ⟨b, o, rfl, hb, hc⟩ := hcells hne
      have hH : Holds (Value.int .i64) w b o zs.toArray := fun j hj => by
        have hj' : j < zs.length := by simpa using hj
        have := hc j (.int .i64 zs[j]) (by unfold ints64; rw [List.getElem?_map, List.getElem?_eq_getElem hj']; rfl)
        have e : zs.toArray[j]! = zs[j] := by simp [hj']
        rw [e]; exact this
      have hl : (ints64 zs).length = zs.length := by simp [ints64]
      rw [hl]
      refine (Try.slices_Sort_int b o cap zs w hH hb (by omega)).mono fun e w' he => ?_
      obtain ⟨h1, n, os, rfl⟩ := he
      refine ⟨h1, ?_⟩
      have := turned_row (Value.int .i64) w b o n zs.toArray (sortI zs).toArray os hb hH (by simp [sortI, List.length_mergeSort]) (by rw [hzs]; simp [sortI, List.length_mergeSort])
      exact this
end Go.Proofs.Ytabfaambilbpeaa.Ax
namespace Go.Proofs.Ytabfaambilbpeaa.Ax
open Go.RowKit Go By Go.Sort
set_option linter.unusedSimpArgs false
set_option linter.unusedVariables false
set_option maxRecDepth 10000

theorem grow_nil (w : World) : grow w #[] = w := by cases w; simp [grow]
theorem ints_holds {G : Ghost} {w : World} {b : Nat} {c : List Int} {blk : Nat} (hB : BAt G w b c blk) (n : Nat) : Holds (Value.int .i64) w blk 0 (c.take n).toArray := fun j hj => by
  have hj' : j < (c.take n).length := by simpa using hj
  have hjc : j < c.length := by rw [List.length_take] at hj'; omega
  have e : (c.take n).toArray[j]! = c[j] := by
    rw [getElem!_pos (c.take n).toArray j hj]; simp [List.getElem_take]
  rw [e, Nat.zero_add]
  exact hB.cell j hjc
theorem getD_at {l : List Int} {j : Nat} (h : j < l.length) : l.getD j 0 = l[j] := by rw [List.getD_eq_getElem?_getD, List.getElem?_eq_getElem h]; rfl
section
variable {h : List (List AV)} {b : Nat} {c : List Int} {n : Nat}
theorem index_b (hb : h[b]? = some (intsA c)) (hn : n ≤ c.length) (x : Int) : Contract Try.prog 53 [.bsl b 0 1 n, .v (.int .i64 x)] h (.v (.int .i64 (Lib.idxOf (c.take n) x))) h [] := by
  refine contract_quietH (by kernel_rfl) rfl fun G w vs hW hS hvs => ?_
  obtain ⟨v0, v1, rfl, h0, h1⟩ := seesL2 hvs
  obtain ⟨blk, cap, rfl, hcap, hmax, hroom, hB⟩ := bAt hW hS hb h0
  have := h1.inv_v; subst this
  exact ⟨_, .v _, Try.slices_Index_int blk 0 n cap c x w hn (by unfold maxLen at hmax; omega) fun j hj => by rw [Nat.zero_add, (hB.cell j hj).1, getD_at hj]⟩
theorem index_e (k : Nat) (nul : Option Bool) (room : Room) (x : Int) : Contract Try.prog 53 [.sl k [] nul room, .v (.int .i64 x)] h (.v (.int .i64 (-1))) h [] := by
  refine contract_quietH (by kernel_rfl) rfl fun G w vs hW hS hvs => ?_
  obtain ⟨v0, v1, rfl, h0, h1⟩ := seesL2 hvs
  obtain ⟨a, cap, rfl, _⟩ := sl_empty h0
  have := h1.inv_v; subst this
  exact ⟨_, .v _, Try.slices_Index_int_empty a cap x w⟩
theorem has_b (hb : h[b]? = some (intsA c)) (hn : n ≤ c.length) (x : Int) : Contract Try.prog 40 [.bsl b 0 1 n, .v (.int .i64 x)] h (.v (.bool ((c.take n).contains x))) h [] := by
  refine contract_quietH (by kernel_rfl) rfl fun G w vs hW hS hvs => ?_
  obtain ⟨v0, v1, rfl, h0, h1⟩ := seesL2 hvs
  obtain ⟨blk, cap, rfl, hcap, hmax, hroom, hB⟩ := bAt hW hS hb h0
  have := h1.inv_v; subst this
  exact ⟨_, .v _, Try.slices_Contains_int blk 0 n cap c x w hn (by unfold maxLen at hmax; omega) fun j hj => by rw [Nat.zero_add, (hB.cell j hj).1, getD_at hj]⟩
theorem has_e (k : Nat) (nul : Option Bool) (room : Room) (x : Int) : Contract Try.prog 40 [.sl k [] nul room, .v (.int .i64 x)] h (.v (.bool false)) h [] := by
  refine contract_quietH (by kernel_rfl) rfl fun G w vs hW hS hvs => ?_
  obtain ⟨v0, v1, rfl, h0, h1⟩ := seesL2 hvs
  obtain ⟨a, cap, rfl, _⟩ := sl_empty h0
  have := h1.inv_v; subst this
  exact ⟨_, .v _, Try.slices_Contains_int_empty a cap x w⟩
/-- A copy, as a row of its own. -/
theorem clone_b (hb : h[b]? = some (intsA c)) (hn : n ≤ c.length) (hbig : n ≤ 1000000) : Contract Try.prog 43 [.bsl b 0 1 n] h (.sl 1 (enc intC (c.take n)) none (.own .res)) h [] := by
  have e : enc intC (c.take n) = (ints64 (c.take n)).map fun u => [.v u] := by unfold enc ints64; rw [List.map_map]; rfl
  rw [e]
  refine contract_madeV (by kernel_rfl) (ints64_one _) fun G w vs hW hS hvs => ?_
  obtain ⟨v0, rfl, h0⟩ := seesL1 hvs
  obtain ⟨blk, cap, rfl, hcap, hmax, hroom, hB⟩ := bAt hW hS hb h0
  refine (Try.slices_Clone_int blk 0 n cap c w hn (by omega) fun j hj => by rw [Nat.zero_add, (hB.cell j hj).1, getD_at hj]).mono fun e w' he => ?_
  obtain ⟨v', rfl, h1, _, h3⟩ := he
  have hl : (ints64 (c.take n)).length = n := by simp; omega
  exact ⟨v', _, rfl, by rw [hl]; exact h1, h3⟩
theorem clone_e (k : Nat) (room : Room) : Contract Try.prog 43 [.sl k [] (some true) room] h (.sl 1 [] (some true) .exact) h [] := by
  refine contract_quietH (by kernel_rfl) rfl fun G w vs hW hS hvs => ?_
  obtain ⟨v0, rfl, h0⟩ := seesL1 hvs
  obtain ⟨a, cap, rfl, h2⟩ := sl_empty h0
  obtain ⟨rfl, rfl⟩ := h2 rfl
  exact ⟨_, .sl 1 [] (some true) .exact none 0 0 (fun _ _ => undef) rfl ⟨fun _ => ⟨rfl, rfl⟩, fun _ => rfl, fun h => (by cases h)⟩ (fun e h => by cases h) (Nat.le_refl _) (by simp [maxLen]) (fun _ => rfl) (fun h => by simp at h) (fun i e h => by simp at h) (fun i j h => by simp at h), Try.slices_Clone_int_nil 0 0 w⟩
/-- A copy, as a variable of its own. -/
theorem clone_v (hb : h[b]? = some (intsA c)) (hn : n ≤ c.length) (h0n : 0 < n) (hbig : n ≤ 1000000) : Contract Try.prog 43 [.bsl b 0 1 n] h (.bsl h.length 0 1 n) (h ++ [intsA (c.take n)]) [] := by
  refine contract_newboxH (by kernel_rfl) (intsA_plain _) fun G w vs hW hS hvs => ?_
  obtain ⟨v0, rfl, h0⟩ := seesL1 hvs
  obtain ⟨blk, cap, rfl, hcap, hmax, hroom, hB⟩ := bAt hW hS hb h0
  refine (Try.slices_Clone_int blk 0 n cap c w hn (by omega) fun j hj => by rw [Nat.zero_add, (hB.cell j hj).1, getD_at hj]).mono fun e w' he => ?_
  obtain ⟨v', rfl, ⟨_, h1⟩, _, h3⟩ := he
  rcases h1 with ⟨_, h1⟩ | ⟨g, cap', cur, rfl, hg, hrow, hcap', hmax', hcs, htake⟩
  · omega
  have hgw : g < w'.heap.size := by
    rcases Nat.lt_or_ge g w'.heap.size with h1 | h1
    · exact h1
    · rw [Array.getElem?_eq_none h1] at hrow; cases hrow
  have hcell : ∀ j, w'.cell? ⟨g, j, none⟩ = cur[j]? := fun j => cell_of_row _ _ j cur _ (0, 0) hrow
  have hfz : ∀ j, w'.frozen? ⟨g, j, none⟩ = false := fun j => by simp [World.frozen?, hrow]
  have htake' : cur.toList.take n = ints64 (c.take n) := by rw [Nat.mul_one] at htake; exact htake
  refine ⟨g, cap', ints64 (c.take n), rfl, hg, hgw, hcap', ⟨hmax', fun j hj => ⟨?_, hfz j⟩⟩, by simp, ints64_one _, (ints64_sees _ _).2, fun j x hj => ⟨?_, hfz j⟩, h3⟩
  · rw [hcell, Array.getElem?_eq_getElem (by omega)]; rfl
  · rw [hcell]
    rw [← htake', List.getElem?_take] at hj
    split at hj
    · rw [← Array.getElem?_toList]; exact hj
    · cases hj
def delL (c : List Int) (n i : Nat) : List Int := (c.take n).take i ++ (c.take n).drop (i + 1) ++ List.replicate (i + 1 - i) 0
theorem delL_len {i : Nat} (hn : n ≤ c.length) (hi : i < n) : (delL c n i).length = n := by unfold delL; simp; omega
theorem delete_b (hb : h[b]? = some (intsA c)) (hn : n ≤ c.length) {i : Nat} (hi : i < n) : Contract Try.prog 42 [.bsl b 0 1 n, .v (.int .i64 (i : Int)), .v (.int .i64 ((i : Int) + 1))] h (.bsl b 0 1 (n - 1)) (h.set b (intsA (delL c n i ++ c.drop n))) [b] := by
  have hdl := delL_len hn hi
  have key := contract_inplace (P := Try.prog) (f := 42) (args := [.bsl b 0 1 n, .v (.int .i64 (i : Int)), .v (.int .i64 ((i : Int) + 1))]) (d := delL c n i) (r := .bsl b 0 1 (n - 1)) (by kernel_rfl) hb (by omega) (fun e => by subst e; simp at hn; omega) rfl fun G w vs hW hS hvs => by
    obtain ⟨v0, v1, v2, rfl, h0, h1, h2⟩ := seesL3 hvs
    have h0' := h0
    obtain ⟨blk, cap, rfl, hcap, hmax, hroom, hB⟩ := bAt hW hS hb h0
    have := h1.inv_v; subst this
    have := h2.inv_v; subst this
    have hzl : (c.take n).length = n := by rw [List.length_take]; omega
    refine ⟨blk, .slice (some ⟨blk, 0, none⟩) (n - 1) cap, hB, .bsl b 0 1 (n - 1) blk cap ⟨hB.box, hB.kind⟩ (by omega) ⟨hmax, hroom⟩, ?_⟩
    have hcall := Try.slices_Delete_int blk 0 cap i (i + 1) (c.take n) w (ints_holds hB n) (by omega) (by unfold maxLen at hmax; omega) (by omega) (by omega)
    rw [hzl] at hcall
    refine hcall.mono fun e w' he => ?_
    obtain ⟨rfl, q, rfl⟩ := he
    refine ⟨by rw [show i + 1 - i = 1 by omega], ?_⟩
    have hT := turned_row (Value.int .i64) w blk 0 q (c.take n).toArray (delL c n i).toArray #[] hB.lt (ints_holds hB n) (by simp; rw [hdl]; omega) (by simp; rw [hdl]; omega)
    rw [grow_nil] at hT
    exact hT
  rw [hdl] at key
  exact key
theorem sort_b (hb : h[b]? = some (intsA c)) (hn : n ≤ c.length) (h0n : 0 < n) (hbig : n ≤ 1000000) : Contract Try.prog 25 [.bsl b 0 1 n] h (.tup []) (h.set b (intsA (sortI (c.take n) ++ c.drop n))) [b] := by
  have hsl : (sortI (c.take n)).length = n := by simp [sortI, List.length_mergeSort]; omega
  have key := contract_inplace (P := Try.prog) (f := 25) (args := [.bsl b 0 1 n]) (d := sortI (c.take n)) (r := .tup []) (by kernel_rfl) hb (by omega) (fun e => by subst e; simp at hn; omega) rfl fun G w vs hW hS hvs => by
    obtain ⟨v0, rfl, h0⟩ := seesL1 hvs
    obtain ⟨blk, cap, rfl, hcap, hmax, hroom, hB⟩ := bAt hW hS hb h0
    have hzl : (c.take n).length = n := by rw [List.length_take]; omega
    refine ⟨blk, .tuple #[], hB, .tup [] [] rfl (fun j c hj => by simp at hj), ?_⟩
    have hcall := Try.slices_Sort_int blk 0 cap (c.take n) w (ints_holds hB n) hB.lt (by omega)
    rw [hzl] at hcall
    refine hcall.mono fun e w' he => ?_
    obtain ⟨rfl, q, os, rfl⟩ := he
    exact ⟨rfl, turned_row (Value.int .i64) w blk 0 q (c.take n).toArray (sortI (c.take n)).toArray os hB.lt (ints_holds hB n) (by simp; rw [hsl]; omega) (by simp; rw [hsl]; omega)⟩
  rw [hsl] at key
  exact key
theorem sort_e (k : Nat) (nul : Option Bool) (room : Room) : Contract Try.prog 25 [.sl k [] nul room] h (.tup []) h [] := by
  refine contract_quietH (by kernel_rfl) rfl fun G w vs hW hS hvs => ?_
  obtain ⟨v0, rfl, h0⟩ := seesL1 hvs
  obtain ⟨a, cap, rfl, _⟩ := sl_empty h0
  exact ⟨_, .tup [] [] rfl (fun j c hj => by simp at hj), Try.slices_Sort_int_none a cap w⟩
def compL (c : List Int) (n : Nat) : List Int := Lib.compact (c.take n) ++ List.replicate ((c.take n).length - (Lib.compact (c.take n)).length) 0
theorem compact_le (zs : List Int) : (Lib.compact zs).length ≤ zs.length := by
  unfold Lib.compact Lib.compactUpTo
  rw [List.length_map]
  exact Nat.le_trans (List.length_filter_le _ _) (by simp)
theorem compact_b (hb : h[b]? = some (intsA c)) (hn : n ≤ c.length) (h0n : 0 < n) : Contract Try.prog 26 [.bsl b 0 1 n] h (.bsl b 0 1 (Lib.compact (c.take n)).length) (h.set b (intsA (compL c n ++ c.drop n))) [b] := by
  have hzl : (c.take n).length = n := by rw [List.length_take]; omega
  have hle := compact_le (c.take n)
  have hsl : (compL c n).length = n := by unfold compL; simp; omega
  have key := contract_inplace (P := Try.prog) (f := 26) (args := [.bsl b 0 1 n]) (d := compL c n) (r := .bsl b 0 1 (Lib.compact (c.take n)).length) (by kernel_rfl) hb (by omega) (fun e => by subst e; simp at hn; omega) rfl fun G w vs hW hS hvs => by
    obtain ⟨v0, rfl, h0⟩ := seesL1 hvs
    obtain ⟨blk, cap, rfl, hcap, hmax, hroom, hB⟩ := bAt hW hS hb h0
    refine ⟨blk, .slice (some ⟨blk, 0, none⟩) (Lib.compact (c.take n)).length cap, hB, .bsl b 0 1 _ blk cap ⟨hB.box, hB.kind⟩ (by omega) ⟨hmax, hroom⟩, ?_⟩
    have hcall := Try.slices_Compact_int blk 0 cap (c.take n) w (ints_holds hB n) (by unfold maxLen at hmax; omega) (by omega)
    rw [hzl] at hcall
    refine hcall.mono fun e w' he => ?_
    obtain ⟨rfl, q, rfl⟩ := he
    refine ⟨rfl, ?_⟩
    have hT := turned_row (Value.int .i64) w blk 0 q (c.take n).toArray (compL c n).toArray #[] hB.lt (ints_holds hB n) (by simp; rw [hsl]; omega) (by simp; rw [hsl]; omega)
    rw [grow_nil] at hT
    have e2 : compL c n = Lib.compact (c.take n) ++ List.replicate (n - (Lib.compact (c.take n)).length) 0 := by unfold compL; rw [hzl]
    rw [e2] at hT
    rw [e2]
    exact hT
  rw [hsl] at key
  exact key
theorem compact_e (k : Nat) (nul : Option Bool) (room : Room) : Contract Try.prog 26 [.sl k [] nul room] h (.sl 1 [] none .no) h [] := by
  refine contract_quietH (by kernel_rfl) rfl fun G w vs hW hS hvs => ?_
  obtain ⟨v0, rfl, h0⟩ := seesL1 hvs
  cases h0 with
  | sl _ _ _ _ a len cap u hlen hn hk hcap hm =>
    have h0 : len = 0 := hlen
    subst h0
    refine ⟨_, ?_, Try.slices_Compact_int_empty a cap w⟩
    exact .sl 1 [] none .no a 0 cap (fun _ _ => undef) rfl ⟨hn.1, fun h => (by cases h), fun h => (by cases h)⟩ (fun e h => by cases h) (Nat.zero_le _) hm (fun h => by cases h) (fun h => by simp at h) (fun i e h => by simp at h) (fun i j h => by simp at h)
end
end Go.Proofs.Ytabfaambilbpeaa.Ax
