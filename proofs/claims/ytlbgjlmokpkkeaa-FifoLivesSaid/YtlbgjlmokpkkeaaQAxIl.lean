/- Who waits, in the order of the turns: slices.SortFunc, by the kit's contract. -/
import Derived.Shelf.SlSortCmp.NoneTotal
import Derived.Shelf.SlicesG.Cmp
import Derived.Test.YtlbgjlmokpkkeaaProg
import Derived.Test.YtlbgjlmokpkkeaaQAxFo
import Derived.Test.YtlbgjlmokpkkeaaQAxTr
import Derived.WalkKit
/- Contracts of Go's library, laid at this program by the kit's shelf (plain words): slices_SortFunc, slices_SortFunc_none, slices_SortFunc_total, cmp_Compare_int. -/
namespace Go.Sort
end Go.Sort
namespace Go.Proofs
open Go.Shelf Go.RowKit Go.Lib Go.Sort
def Try.laysSlC25_f22_ren : Go.Shelf.Ren := ⟨fun | 5 => 22 | 7 => 25 | n => n, fun | 22 => 3 | 3 => 3 | 4 => 4 | n => n, fun | n => n⟩
theorem Try.laysSlC25_f22 : Go.Proofs.SlLaysC2.n5 Try.prog Try.laysSlC25_f22_ren := {
  mixed := by kernel_rfl
  f5 := ⟨Try.f22.name, by decide, Try.func22.trans (congrArg some (by kernel_rfl))⟩
  f7 := ⟨Try.f25.name, by decide, Try.func25.trans (congrArg some (by kernel_rfl))⟩
  t3 := Try.underlying3
  a3 := Try.isAgg3
  z3 := Try.sizeOf3
  v3 := Try.zeroValue3
  t4 := Try.underlying4
  a4 := Try.isAgg4
  z4 := Try.sizeOf4
  v4 := Try.zeroValue4
  t22 := Try.underlying3
  a22 := Try.isAgg3
  z22 := Try.sizeOf3
  v22 := Try.zeroValue3 }
theorem Try.cmp_Compare_int (x y : Int) (w : World) :
    Calls Try.prog 22 #[.int .i64 x, .int .i64 y] w fun e w' => e = .returned (.int .i64 (Lib.compareInt x y)) ∧ w' = w := AnyG.cmp_Compare_int Try.laysSlC25_f22 x y w
def Try.laysSlF6_f20_ren : Go.Shelf.Ren := ⟨fun | 6 => 20 | 15 => 24 | 14 => 23 | 28 => 34 | 29 => 35 | 20 => 26 | 21 => 27 | 22 => 28 | 23 => 29 | 24 => 30 | 25 => 31 | 26 => 32 | 27 => 33 | 46 => 36 | 47 => 37 | 48 => 38 | 49 => 39 | 50 => 40 | 57 => 41 | n => n, fun | 22 => 26 | 24 => 3 | 25 => 44 | 3 => 3 | 39 => 47 | 0 => 0 | 53 => 56 | 55 => 58 | 4 => 4 | 46 => 50 | 45 => 49 | 50 => 32 | 5 => 5 | 9 => 9 | 66 => 59 | 70 => 63 | 76 => 65 | 77 => 66 | n => n, fun | n => n⟩
theorem Try.laysSlF6_f20 : Go.Proofs.SlLaysF.n6 Try.prog Try.laysSlF6_f20_ren := {
  mixed := by kernel_rfl
  f6 := ⟨Try.f20.name, by decide, Try.func20.trans (congrArg some (by kernel_rfl))⟩
  f14 := ⟨Try.f23.name, by decide, Try.func23.trans (congrArg some (by kernel_rfl))⟩
  f15 := Try.func24.trans (congrArg some (by kernel_rfl))
  f20 := ⟨Try.f26.name, by decide, Try.func26.trans (congrArg some (by kernel_rfl))⟩
  f21 := ⟨Try.f27.name, by decide, Try.func27.trans (congrArg some (by kernel_rfl))⟩
  f22 := ⟨Try.f28.name, by decide, Try.func28.trans (congrArg some (by kernel_rfl))⟩
  f23 := ⟨Try.f29.name, by decide, Try.func29.trans (congrArg some (by kernel_rfl))⟩
  f24 := ⟨Try.f30.name, by decide, Try.func30.trans (congrArg some (by kernel_rfl))⟩
  f25 := ⟨Try.f31.name, by decide, Try.func31.trans (congrArg some (by kernel_rfl))⟩
  f26 := ⟨Try.f32.name, by decide, Try.func32.trans (congrArg some (by kernel_rfl))⟩
  f27 := ⟨Try.f33.name, by decide, Try.func33.trans (congrArg some (by kernel_rfl))⟩
  f28 := Try.func34.trans (congrArg some (by kernel_rfl))
  f29 := Try.func35.trans (congrArg some (by kernel_rfl))
  f46 := ⟨Try.f36.name, by decide, Try.func36.trans (congrArg some (by kernel_rfl))⟩
  f47 := Try.func37.trans (congrArg some (by kernel_rfl))
  f48 := Try.func38.trans (congrArg some (by kernel_rfl))
  f49 := ⟨Try.f39.name, by decide, Try.func39.trans (congrArg some (by kernel_rfl))⟩
  f50 := ⟨Try.f40.name, by decide, Try.func40.trans (congrArg some (by kernel_rfl))⟩
  f57 := ⟨Try.f41.name, by decide, Try.func41.trans (congrArg some (by kernel_rfl))⟩
  t0 := Try.underlying0
  a0 := Try.isAgg0
  z0 := Try.sizeOf0
  v0 := Try.zeroValue0
  t3 := Try.underlying3
  a3 := Try.isAgg3
  z3 := Try.sizeOf3
  v3 := Try.zeroValue3
  t4 := Try.underlying4
  a4 := Try.isAgg4
  z4 := Try.sizeOf4
  v4 := Try.zeroValue4
  t5 := Try.underlying5
  a5 := Try.isAgg5
  z5 := Try.sizeOf5
  v5 := Try.zeroValue5
  t9 := Try.underlying9
  a9 := Try.isAgg9
  z9 := Try.sizeOf9
  v9 := Try.zeroValue9
  t22 := Try.underlying26
  a22 := Try.isAgg26
  z22 := Try.sizeOf26
  v22 := Try.zeroValue26
  a24 := Try.isAgg3
  z24 := Try.sizeOf3
  t25 := Try.underlying44
  a25 := Try.isAgg44
  z25 := Try.sizeOf44
  v25 := Try.zeroValue44
  t39 := Try.underlying47
  a39 := Try.isAgg47
  z39 := Try.sizeOf47
  v39 := Try.zeroValue47
  t45 := Try.underlying49
  a45 := Try.isAgg49
  z45 := Try.sizeOf49
  v45 := Try.zeroValue49
  t46 := Try.underlying50
  a46 := Try.isAgg50
  z46 := Try.sizeOf50
  v46 := Try.zeroValue50
  t50 := Try.underlying32
  a50 := Try.isAgg32
  z50 := Try.sizeOf32
  v50 := Try.zeroValue32
  t53 := Try.underlying56
  a53 := Try.isAgg56
  z53 := Try.sizeOf56
  v53 := Try.zeroValue56
  t55 := Try.underlying58
  a55 := Try.isAgg58
  z55 := Try.sizeOf58
  v55 := Try.zeroValue58
  t66 := Try.underlying59
  a66 := Try.isAgg59
  z66 := Try.sizeOf59
  v66 := Try.zeroValue59
  t70 := Try.underlying63
  a70 := Try.isAgg63
  z70 := Try.sizeOf63
  v70 := Try.zeroValue63
  t76 := Try.underlying65
  a76 := Try.isAgg65
  z76 := Try.sizeOf65
  v76 := Try.zeroValue65
  t77 := Try.underlying66
  a77 := Try.isAgg66
  z77 := Try.sizeOf66
  v77 := Try.zeroValue66 }
def Try.laysSlF06_f20_ren : Go.Shelf.Ren := ⟨fun | 6 => 20 | 15 => 24 | 14 => 23 | 28 => 34 | 29 => 35 | 20 => 26 | 21 => 27 | 22 => 28 | 23 => 29 | 24 => 30 | 25 => 31 | 26 => 32 | 27 => 33 | 46 => 36 | 47 => 37 | 48 => 38 | 49 => 39 | 50 => 40 | 57 => 41 | n => n, fun | 22 => 26 | 24 => 3 | 25 => 44 | 3 => 3 | 39 => 47 | 0 => 0 | 53 => 56 | 55 => 58 | 4 => 4 | 46 => 50 | 45 => 49 | 50 => 32 | 5 => 5 | 9 => 9 | 66 => 59 | 70 => 63 | 76 => 65 | 77 => 66 | n => n, fun | n => n⟩
theorem Try.laysSlF06_f20 : Go.Proofs.SlLaysF0.n6 Try.prog Try.laysSlF06_f20_ren := {
  mixed := by kernel_rfl
  f6 := ⟨Try.f20.name, by decide, Try.func20.trans (congrArg some (by kernel_rfl))⟩
  f14 := ⟨Try.f23.name, by decide, Try.func23.trans (congrArg some (by kernel_rfl))⟩
  f15 := Try.func24.trans (congrArg some (by kernel_rfl))
  f20 := ⟨Try.f26.name, by decide, Try.func26.trans (congrArg some (by kernel_rfl))⟩
  f21 := ⟨Try.f27.name, by decide, Try.func27.trans (congrArg some (by kernel_rfl))⟩
  f22 := ⟨Try.f28.name, by decide, Try.func28.trans (congrArg some (by kernel_rfl))⟩
  f23 := ⟨Try.f29.name, by decide, Try.func29.trans (congrArg some (by kernel_rfl))⟩
  f24 := ⟨Try.f30.name, by decide, Try.func30.trans (congrArg some (by kernel_rfl))⟩
  f25 := ⟨Try.f31.name, by decide, Try.func31.trans (congrArg some (by kernel_rfl))⟩
  f26 := ⟨Try.f32.name, by decide, Try.func32.trans (congrArg some (by kernel_rfl))⟩
  f27 := ⟨Try.f33.name, by decide, Try.func33.trans (congrArg some (by kernel_rfl))⟩
  f28 := Try.func34.trans (congrArg some (by kernel_rfl))
  f29 := Try.func35.trans (congrArg some (by kernel_rfl))
  f46 := ⟨Try.f36.name, by decide, Try.func36.trans (congrArg some (by kernel_rfl))⟩
  f47 := Try.func37.trans (congrArg some (by kernel_rfl))
  f48 := Try.func38.trans (congrArg some (by kernel_rfl))
  f49 := ⟨Try.f39.name, by decide, Try.func39.trans (congrArg some (by kernel_rfl))⟩
  f50 := ⟨Try.f40.name, by decide, Try.func40.trans (congrArg some (by kernel_rfl))⟩
  f57 := ⟨Try.f41.name, by decide, Try.func41.trans (congrArg some (by kernel_rfl))⟩
  t0 := Try.underlying0
  a0 := Try.isAgg0
  z0 := Try.sizeOf0
  v0 := Try.zeroValue0
  t3 := Try.underlying3
  a3 := Try.isAgg3
  z3 := Try.sizeOf3
  v3 := Try.zeroValue3
  t4 := Try.underlying4
  a4 := Try.isAgg4
  z4 := Try.sizeOf4
  v4 := Try.zeroValue4
  t5 := Try.underlying5
  a5 := Try.isAgg5
  z5 := Try.sizeOf5
  v5 := Try.zeroValue5
  t9 := Try.underlying9
  a9 := Try.isAgg9
  z9 := Try.sizeOf9
  v9 := Try.zeroValue9
  t22 := Try.underlying26
  a22 := Try.isAgg26
  z22 := Try.sizeOf26
  v22 := Try.zeroValue26
  t25 := Try.underlying44
  a25 := Try.isAgg44
  z25 := Try.sizeOf44
  v25 := Try.zeroValue44
  t39 := Try.underlying47
  a39 := Try.isAgg47
  z39 := Try.sizeOf47
  v39 := Try.zeroValue47
  t45 := Try.underlying49
  a45 := Try.isAgg49
  z45 := Try.sizeOf49
  v45 := Try.zeroValue49
  t46 := Try.underlying50
  a46 := Try.isAgg50
  z46 := Try.sizeOf50
  v46 := Try.zeroValue50
  t50 := Try.underlying32
  a50 := Try.isAgg32
  z50 := Try.sizeOf32
  v50 := Try.zeroValue32
  t53 := Try.underlying56
  a53 := Try.isAgg56
  z53 := Try.sizeOf56
  v53 := Try.zeroValue56
  t55 := Try.underlying58
  a55 := Try.isAgg58
  z55 := Try.sizeOf58
  v55 := Try.zeroValue58
  t66 := Try.underlying59
  a66 := Try.isAgg59
  z66 := Try.sizeOf59
  v66 := Try.zeroValue59
  t70 := Try.underlying63
  a70 := Try.isAgg63
  z70 := Try.sizeOf63
  v70 := Try.zeroValue63
  t76 := Try.underlying65
  a76 := Try.isAgg65
  z76 := Try.sizeOf65
  v76 := Try.zeroValue65
  t77 := Try.underlying66
  a77 := Try.isAgg66
  z77 := Try.sizeOf66
  v77 := Try.zeroValue66 }
theorem Try.slices_SortFunc_none {α : Type} [Inhabited α] (p : Option Addr) (cap : Nat) (fv : Value) (w : World) :
    Calls Try.prog 20 #[.slice p 0 cap, fv] w fun e w' => e = .returned (.tuple #[]) ∧ w' = w := AnyF.slices_SortFunc_none Try.laysSlF06_f20 p cap fv w
theorem Try.slices_SortFunc_total {α : Type} [Inhabited α] (enc : α → Value) (h1 : OneCell enc) (cf : α → α → Int) (hO : SWO (ltOf cf)) (g : Nat) (cb : Array Value) (blk off cap : Nat) (d : Array α) (w : World) (eg : ∀ args w, (callFunc g args).run Try.prog w = .ok (.enter g args) w) (hcmp : CmpLays1 Try.prog g cb enc cf blk off d.size w) (hH : Holds enc w blk off d) (hblk : blk < w.heap.size) (hsz : d.size < 4611686018427387904) (hT : ∀ x y, (ltOf cf) x y = false → (ltOf cf) y x = false → x = y) :
    Calls Try.prog 20 #[.slice (some ⟨blk, off, none⟩) d.size cap, .func (.func g) #[] cb] w fun e w' =>
      e = .returned (.tuple #[]) ∧ ∃ n os, w' = sortWorld enc w blk off n (d.toList.mergeSort fun x y => !(ltOf cf) y x).toArray os := Any.slices_SortFunc_total Try.laysSlF6_f20 enc h1 cf hO g cb blk off cap d w eg hcmp hH hblk hsz hT
end Go.Proofs
namespace Go.Proofs.Ytlbgjlmokpkkeaa.Ax
set_option maxRecDepth 100000
open Go.RowKit Go By Go.Sort Go.Lib
set_option linter.unusedSimpArgs false
set_option linter.unusedVariables false
set_option maxRecDepth 10000

/-! ### The map, as it lies -/
def entOf (x : IE Int) : Ent := ⟨.int .i64 x.key, x.born, [.int .i64 x.val]⟩
theorem ents_ints {G : Ghost} : ∀ {l : List (IE Int)} {m : List Ent}, EntsS G (l.map (IE.ent intC)) m → m = l.map entOf
  | [], [], _ => rfl
  | [], _ :: _, h => h.elim
  | _ :: _, [], h => h.elim
  | x :: l, y :: m, h => by
    obtain ⟨⟨h1, h2, h3⟩, h⟩ := h
    have ih := ents_ints h
    obtain ⟨k, b, cs⟩ := y
    obtain ⟨hl, hs⟩ := h3
    have hl : cs.length = 1 := hl
    obtain ⟨c, rfl⟩ : ∃ c, cs = [c] := List.length_eq_one_iff.1 hl
    have h4 : Sees G (.v (.int .i64 x.val)) c := hs 0 _ rfl
    have h5 := h4.inv_v
    have h1 : k = .int .i64 x.key := h1
    have h2 : b = x.born := h2
    rw [List.map_cons, ← ih, h1, h2, h5]
    rfl
theorem ent_found (k : Int) : ∀ (l : List (IE Int)) (i : Nat), (match Ent.find (.int .i64 k) (l.map entOf) i with
      | some p => (p.2.entry true).val
      | none => .int .i64 0) = .int .i64 ((IE.get k l).getD 0)
  | [], _ => rfl
  | x :: l, i => by
    rw [List.map_cons]
    unfold Ent.find
    have e : keyEq (.int .i64 k) (entOf x).key = decide (x.key = k) := keyEq_int k x.key
    rw [e]
    unfold IE.get IE.find
    rw [List.find?_cons]
    by_cases h : x.key = k
    · simp [h]
      rfl
    · have ih := ent_found k l (i + 1)
      unfold IE.get IE.find at ih
      simp [h]
      exact ih
theorem ents_keyOk (l : List (IE Int)) : ∀ e ∈ l.map entOf, KeyOk (.int .i64) e.key := fun e he => by
  obtain ⟨x, _, rfl⟩ := List.mem_map.1 he
  exact .inr ⟨_, _, rfl, rfl⟩
theorem fless_calls (l : List (IE Int)) (W : World) (tb to mb clock : Nat) (hc : W.cell? ⟨tb, to, none⟩ = some (.map (some mb))) (hm : W.heap[mb]? = some (.map ((l.map entOf).map (Ent.entry true)).toArray clock)) (x y : Int) :
    Calls Try.prog 21 #[.int .i64 x, .int .i64 y, .pointer (some ⟨tb, to, none⟩)] W fun e w' => e = .returned (.int .i64 (Lib.compareInt ((IE.get x l).getD 0) ((IE.get y l).getD 0))) ∧ w' = W := by
  have hl : ∀ k : Int, (Instr.lookup 39 (.map (some mb)) (.int .i64 k) false).run Try.prog W = .ok (.int .i64 ((IE.get k l).getD 0)) W := fun k => by
    have h1 := run_lookup (P := Try.prog) (w := W) (t := 39) (kt := 3) (et := 3) (d := .int .i64) (by kernel_rfl) (by kernel_rfl) (k := .int .i64 k) (.inr ⟨_, _, rfl, rfl⟩) hm (ents_keyOk l) (z := .int .i64 0) (by kernel_rfl) false
    rw [h1]
    have h2 := ent_found k l 0
    cases hf : Ent.find (.int .i64 k) (l.map entOf) 0 with
    | none => rw [hf] at h2; simp at h2 ⊢; exact h2
    | some p => rw [hf] at h2; simp at h2 ⊢; exact h2
  have hcmp := fun (a b : Int) => Try.cmp_Compare_int a b W
  have hH := Lib.hid hm
  clear hm
  go_enter Try.func21, Try.ntmps21
  go_wp2_with (go_at_call 22; refine (hcmp _ _).mono ?_; rintro e w' ⟨rfl, rfl⟩)
  go_ret
  exact ⟨rfl, rfl⟩
/-! ### Sorted -/
def intsV (l : List Int) : List Value := l.map fun n => .int .i64 n
theorem vE_ints (l : List Int) : vE (intsV l) = enc intC l := by
  unfold vE intsV enc
  rw [List.map_map]
  rfl
theorem rise_inj {F : Ff} {m : Nat} (ho : FfOk m F) {x y : IE Int} (hx : x ∈ F.l) (hy : y ∈ F.l) (e : x.val = y.val) : x = y := by
  have hn : (F.l.map IE.val).Nodup := by
    unfold List.Nodup
    rw [List.pairwise_map]
    exact ho.rise.imp fun h e => by omega
  exact map_inj_mem hn hx hy e
abbrev Wt (F : Ff) := { x : IE Int // x ∈ F.l }
def wtE {F : Ff} (x : Wt F) : Value := .int .i64 x.1.key
def wtC {F : Ff} (x y : Wt F) : Int := Lib.compareInt x.1.val y.1.val
theorem wt_lt {F : Ff} (x y : Wt F) : ltOf wtC x y = decide (x.1.val < y.1.val) := by
  unfold ltOf wtC Lib.compareInt
  by_cases h1 : x.1.val < y.1.val
  · simp [h1]
  · by_cases h2 : y.1.val < x.1.val <;> simp [h1, h2]
theorem wt_swo (F : Ff) : SWO (ltOf (wtC (F := F))) where
  irrefl x := by rw [wt_lt]; simp
  trans x y z h1 h2 := by rw [wt_lt] at *; simp at *; omega
  ntrans x y z h1 h2 := by rw [wt_lt] at *; simp at *; omega
theorem wt_sorted {F : Ff} {m : Nat} (ho : FfOk m F) (ds : List (Wt F)) (hp : (ds.map (·.1)).Perm F.l) : (ds.mergeSort fun x y => !(ltOf wtC) y x).map (·.1) = F.l := by
  have h1 : ((ds.mergeSort fun x y => !(ltOf wtC) y x).map (·.1)).Perm F.l := ((List.mergeSort_perm ..).map _).trans hp
  have h2 : (ds.mergeSort fun x y => !(ltOf wtC) y x).Pairwise (fun x y => (!(ltOf wtC) y x) = true) := List.pairwise_mergeSort (fun a b c h1 h2 => by simp only [wt_lt, Bool.not_eq_true', decide_eq_false_iff_not] at *; omega) (fun a b => by simp only [wt_lt, Bool.or_eq_true, Bool.not_eq_true', decide_eq_false_iff_not]; omega) _
  have h3 : ((ds.mergeSort fun x y => !(ltOf wtC) y x).map (·.1)).Pairwise (fun x y => x.val ≤ y.val) := by
    rw [List.pairwise_map]
    exact h2.imp fun {a b} h => by simp only [wt_lt, Bool.not_eq_true', decide_eq_false_iff_not] at h; omega
  have h4 : F.l.Pairwise (fun x y => x.val ≤ y.val) := ho.rise.imp fun h => by omega
  exact h1.eq_of_pairwise (fun a b ha hb h5 h6 => rise_inj ho (h1.subset ha) hb (by omega)) h3 h4
set_option maxHeartbeats 1000000 in
theorem sort_turns {F : Ff} {m : Nat} (ho : FfOk m F) (hm : m ≤ 1000000) {s : List (IE Int)} (hp : s.Perm F.l) {h : List (List AV)} {i : Nat} (hi : h[i]? = some [.mp F.a 1 true]) (ha : h[F.a]? = some F.cells) :
    InPlaceC Try.prog 20 (intsV (s.map IE.key)) (intsV F.waits) (.fn (.func 21) [] [.box i 0]) h := by
  refine ⟨enters_ofB (by kernel_rfl), by simp [intsV, Ff.waits, hp.length_eq], fun u hu => ?_, fun G w fv a cap hW hH hF hcap hcells => ?_⟩
  · obtain ⟨n, _, rfl⟩ := List.mem_map.1 hu
    rfl
  · cases hs : s with
    | nil =>
      have hw : F.waits = [] := by unfold Ff.waits; rw [hs] at hp; rw [List.Perm.eq_nil hp.symm]; rfl
      rw [hw]
      exact (Try.slices_SortFunc_none (α := Int) a cap fv w).mono fun e w' he => by
        obtain ⟨h1, h2⟩ := he
        subst h2
        exact ⟨h1, turned_none _ _⟩
    | cons z r =>
      rw [← hs]
      have hne : intsV (s.map IE.key) ≠ [] := by rw [hs]; simp [intsV]
      obtain ⟨b, o, rfl, hb, hbuf, hc⟩ := hcells hne
      -- the function that is handed in
      obtain ⟨us, vs, rfl, hus, hvs, _, hv⟩ := hF.inv_fn
      have hvs : vs.length = 1 := hvs
      obtain ⟨v, rfl⟩ : ∃ v, vs = [v] := List.length_eq_one_iff.1 hvs
      have hus : us = [] := List.eq_nil_of_length_eq_zero hus
      subst hus
      have hv0 : Sees G (.box i 0) v := hv 0 _ rfl
      obtain ⟨tb, rfl, htb, hkt⟩ := hv0.inv_box
      -- the map's variable
      have hil := (List.getElem?_eq_some_iff.1 hi).1
      have hal := (List.getElem?_eq_some_iff.1 ha).1
      obtain ⟨cs, hcs⟩ : ∃ cs, G.boxv[i]? = some cs := ⟨_, List.getElem?_eq_getElem (by rw [← hH.1]; exact hil)⟩
      obtain ⟨es, hes⟩ : ∃ es, G.boxv[F.a]? = some es := ⟨_, List.getElem?_eq_getElem (by rw [← hH.1]; exact hal)⟩
      obtain ⟨q1, _, q3⟩ := hH.2 i _ cs hi hcs
      have q1 : cs.length = 1 := q1
      obtain ⟨c, rfl⟩ : ∃ c, cs = [c] := List.length_eq_one_iff.1 q1
      have hcs0 : Sees G (.mp F.a 1 true) c := q3 0 _ rfl
      obtain ⟨mb, rfl, hmb, hkm⟩ := hcs0.inv_mp
      obtain ⟨_, p2, p3, p4⟩ := hW.box i tb _ htb hcs
      have hcell := (p4 0 _ rfl hkt).1
      obtain ⟨r1, _, r3⟩ := hH.2 F.a _ es ha hes
      obtain ⟨ms, rfl, hms⟩ := sees_map (clock := F.clock) (l := F.l.map (IE.ent intC)) ⟨r1, r3⟩
      have hms := ents_ints hms
      subst hms
      have hobj := (hW.obj.kbox F.a mb _ _ hmb hes hkm).1
      rw [mapVals_obj 1 true F.clock _ (fun e he => by obtain ⟨x, _, rfl⟩ := List.mem_map.1 he; exact ⟨rfl, fun _ => by omega⟩)] at hobj
      have hmsz : mb < w.heap.size := (Array.getElem?_eq_some_iff.1 hobj).1
      obtain ⟨_, _, s3, _⟩ := hW.box F.a mb _ hmb hes
      have htne : tb ≠ b := fun e => by subst e; rw [p3 (by simp)] at hbuf; cases hbuf
      have hmne : mb ≠ b := fun e => by subst e; rw [s3 (by unfold mapVals; simp)] at hbuf; cases hbuf
      -- the row
      obtain ⟨ds, hds⟩ : ∃ ds : List (Wt F), ds.map (·.1) = s := ⟨s.attachWith _ (fun x hx => hp.subset hx), by simp⟩
      have hdl : ds.length = s.length := by rw [← hds, List.length_map]
      haveI : Inhabited (Wt F) := ⟨⟨z, hp.subset (by rw [hs]; simp)⟩⟩
      have hlen : (intsV (s.map IE.key)).length = ds.toArray.size := by simp [intsV, hdl]
      have hHo : Holds wtE w b o ds.toArray := fun j hj => by
        have hj' : j < ds.length := by simpa using hj
        have e2 : s[j]'(by omega) = ds[j].1 := by simp [← hds]
        have := hc j (.int .i64 (s[j]'(by omega)).key) (by unfold intsV; rw [List.getElem?_map, List.getElem?_map, List.getElem?_eq_getElem (by omega)]; rfl)
        have e : ds.toArray[j]! = ds[j] := by simp [hj']
        rw [e]
        unfold wtE
        rw [← e2]; exact this
      have hpos : 0 < ds.toArray.size := by rw [List.size_toArray, hdl, hs]; simp
      have hcmp : CmpLays1 Try.prog 21 #[.pointer (some ⟨tb, G.base i + 0, none⟩)] (wtE (F := F)) wtC b o ds.toArray.size w := fun n os dk hdk x y => by
        have hT := turned_row wtE w b o n ds.toArray dk os hb hHo hdk (by omega)
        have h1 : (sortWorld wtE w b o n dk os).cell? ⟨tb, G.base i + 0, none⟩ = some (.map (some mb)) := by
          show (grow (putRow wtE (Sort.ahead w n) b o dk) os).cell? _ = _
          rw [World.cell?_of_block (a := ⟨tb, G.base i + 0, none⟩) (hT.other tb p2 fun b' o' e => by injection e with e; injection e with e1 e2; rw [← e1]; exact htne)]
          exact hcell
        have h2 : (sortWorld wtE w b o n dk os).heap[mb]? = some (.map ((F.l.map entOf).map (Ent.entry true)).toArray F.clock) := by
          show (grow (putRow wtE (Sort.ahead w n) b o dk) os).heap[mb]? = _
          rw [hT.other mb hmsz fun b' o' e => by injection e with e; injection e with e1 e2; rw [← e1]; exact hmne]
          exact hobj
        refine (fless_calls F.l _ tb _ mb F.clock h1 h2 x.1.key y.1.key).mono fun e w' he => ?_
        obtain ⟨rfl, rfl⟩ := he
        have g : ∀ z : Wt F, (IE.get z.1.key F.l).getD 0 = z.1.val := fun z => by unfold IE.get; rw [IE.find_of ho.ok z.2]; rfl
        rw [g, g]
        exact ⟨rfl, 0, #[], (grow_empty _).symm⟩
      rw [hlen]
      have hsz : ds.toArray.size < 4611686018427387904 := by
        rw [List.size_toArray, hdl, hp.length_eq]
        have := ho.len
        omega
      refine (Try.slices_SortFunc_total (α := Wt F) wtE (fun _ => rfl) wtC (wt_swo F) 21 #[.pointer (some ⟨tb, G.base i + 0, none⟩)] b o cap ds.toArray w (fun args w => run_enter (enters_ofB (by kernel_rfl)) args w) hcmp hHo hb hsz (fun x y h1 h2 => Subtype.ext (rise_inj ho x.2 y.2 (by rw [wt_lt] at h1 h2; simp at h1 h2; omega)))).mono fun e w' he => ?_
      obtain ⟨h1, n, os, rfl⟩ := he
      refine ⟨h1, ?_⟩
      have hT := turned_row wtE w b o n ds.toArray (ds.mergeSort fun x y => !(ltOf wtC) y x).toArray os hb hHo (by simp [List.length_mergeSort]) (by simp only [List.size_toArray, List.length_mergeSort] at hpos ⊢; exact hpos)
      have hres : ((ds.mergeSort fun x y => !(ltOf wtC) y x).toArray).toList.map wtE = intsV F.waits := by
        have h2 := wt_sorted ho ds (by rw [hds]; exact hp)
        show (ds.mergeSort fun x y => !(ltOf wtC) y x).map wtE = (F.l.map IE.key).map (Value.int .i64)
        rw [← h2, List.map_map, List.map_map]
        rfl
      rw [hres] at hT
      exact hT
end Go.Proofs.Ytlbgjlmokpkkeaa.Ax
