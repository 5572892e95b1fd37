/- Layer 27's statements. -/
import Derived.Test.YtmdapcmdlblnnaaDoorQAxXr
import Derived.Test.YtmdapcmdlblnnaaDoorQAxSv
import Derived.Test.YtmdapcmdlblnnaaDoorQAxGd
/- Arguments within the form's reach: slices by their bytes; cells. -/
namespace Go.Proofs.YtmdapcmdlblnnaaDoor.Ax
open Go.RowKit Go.Deep Go.ChangeShapes Go.WideShapes Go.ChangeAt Go.Joins Go By
set_option linter.unusedSimpArgs false
set_option linter.unusedVariables false

section
variable {P : Program} {t : TypeId}
/-- As shapeR_slice; the elements' bytes, B each, are within reach. -/
theorem shapeR_sliceB {e : TypeId} {k : Nat} {α : Type} {f : α → List AV} {ok : α → Prop} (ht : P.underlying t = some (.slice e)) (hk : P.cellsOf e = k) (hp : 0 < k) {B : Nat} (hby : P.bytesOf e = B) (he : ShapeR P e f ok) (hf : ∀ a, (f a).length = k) :
    ShapeR P t (fun l : List α => [.sl k (enc f l) none .no]) (fun l => l.length * B ≤ reachBytes ∧ ∀ x ∈ l, ok x) := fun en w base held n cs x hx hrx => by
  rcases open_slice ht hx with ⟨rfl, _⟩ | ⟨a, len, cap, m, n, D, Pl, rfl, _, hl, hcm, hm, rfl, hi⟩
  · exact ⟨[], ⟨by simp, fun x h => by cases h⟩, .one rfl (.sl k [] none .no none 0 0 (fun _ _ => undef) rfl ⟨fun _ => ⟨rfl, rfl⟩, fun h => (by cases h), fun h => (by cases h)⟩ (fun e h => by cases h) (Nat.le_refl _) (by simp [maxLen]) (fun h => by cases h) (fun h => by simp at h) (fun i e h => by simp at h) (fun i j h => by simp at h))⟩
  · simp at hm
    by_cases h0 : len = 0
    · subst h0
      exact ⟨[], ⟨by simp, fun x h => by cases h⟩, .one rfl (.sl k [] none .no (some a) 0 cap (fun _ _ => undef) rfl ⟨fun h => (by cases h), fun h => (by cases h), fun h => (by cases h)⟩ (fun e h => by cases h) hl hcm (fun h => by cases h) (fun h => by simp at h) (fun i e h => by simp at h) (fun i j h => by simp at h))⟩
    have hlen : len * B ≤ reachBytes := by
      have := hrx ((len + (m - len)) * P.bytesOf e) (by simp [DataW.weights, ht])
      rw [hby] at this
      exact Nat.le_trans (Nat.mul_le_mul_right _ (by omega)) this
    have hre : ∀ i, i < len → Reached P e (D i) := fun i hlt k hk => hrx k (by
      simp only [DataW.weights, ht, List.mem_cons, List.mem_append]
      exact .inr (.inl (weights_all (List.mem_map.2 ⟨i, List.mem_range.2 hlt, rfl⟩) k hk)))
    have at_ : ∀ i, i < len → ∃ p : α × List Value, ok p.1 ∧ SeesCs (G0 w) (f p.1) p.2 ∧ p.2.length = k ∧ ∀ j u, p.2[j]? = some u → w.cell? ((a.add (i * k)).add j) = some u := fun i hlt => by
      obtain ⟨cs', hc, ht'⟩ := hi i (by omega)
      rw [hk] at hc
      obtain ⟨_, hlen, hat⟩ := World.cells?_some hc
      obtain ⟨b, h1, h2⟩ := he en w base held n cs' _ ht' (hre i hlt)
      refine ⟨(b, cs'), h1, h2, hlen, fun j u hu => ?_⟩
      have hj : j < k := by rw [← hlen]; exact (List.getElem?_eq_some_iff.1 hu).1
      rw [hat j hj, hu]
    have hel : ∀ i, ∃ p : α × List Value, i < len → ok p.1 ∧ SeesCs (G0 w) (f p.1) p.2 ∧ p.2.length = k ∧ ∀ j u, p.2[j]? = some u → w.cell? ((a.add (i * k)).add j) = some u := fun i => by
      by_cases hlt : i < len
      · obtain ⟨p, hp⟩ := at_ i hlt; exact ⟨p, fun _ => hp⟩
      · obtain ⟨p, _⟩ := at_ 0 (by omega); exact ⟨p, fun hh => absurd hh hlt⟩
    obtain ⟨g, hg⟩ := Classical.axiomOfChoice hel
    have hget : ∀ i, i < len → ((List.range len).map fun i => (g i).1)[i]? = some (g i).1 := fun i hi' => by
      rw [List.getElem?_map, List.getElem?_range hi']; rfl
    refine ⟨(List.range len).map fun i => (g i).1, ⟨by simpa using hlen, fun x hx => ?_⟩, .one rfl ?_⟩
    · obtain ⟨i, hi', rfl⟩ := List.mem_map.1 hx
      exact (hg i (List.mem_range.1 hi')).1
    · refine .sl k _ none .no (some a) len cap (fun i j => (g i).2.getD j undef) (by simp [Ax.enc]) ⟨fun h => (by cases h), fun h => (by cases h), fun h => (by cases h)⟩ (fun e he' => ?_) hl hcm (fun h => by cases h) (fun hpos => ?_) (fun i e he' j c hj => ?_) (fun i j hi' hj => ?_)
      · obtain ⟨x, _, rfl⟩ := List.mem_map.1 he'; exact hf x
      · obtain ⟨b, off, spot⟩ := a
        obtain ⟨_, _, hl0, hc0⟩ := hg 0 (by omega)
        have h1 := hc0 0 _ (List.getElem?_eq_getElem (by omega))
        have hs : spot = none := by simpa [Addr.add] using World.cell?_spot h1
        subst hs
        refine ⟨b, off, rfl, fun i j hi' hj => ?_⟩
        have hi2 : i < len := by simpa [Ax.enc] using hi'
        obtain ⟨_, _, hl1, hc1⟩ := hg i hi2
        have h2 := hc1 j _ (List.getElem?_eq_getElem (by omega))
        rw [By.add_plain, By.add_plain] at h2
        rw [List.getD_eq_getElem?_getD, List.getElem?_eq_getElem (by omega)]
        exact G0_cell h2
      · obtain ⟨x, hx1, rfl⟩ := enc_at f _ i he'
        have hi2 : i < len := by have := (List.getElem?_eq_some_iff.1 hx1).1; simpa using this
        rw [hget i hi2] at hx1
        injection hx1 with hx1
        subst hx1
        exact (hg i hi2).2.1.2.2 j c hj
      · have hi2 : i < len := by simpa [Ax.enc] using hi'
        obtain ⟨_, hs, hl1, _⟩ := hg i hi2
        rw [List.getD_eq_getElem?_getD, List.getElem?_eq_getElem (by omega)]
        exact hs.2.1 _ (List.getElem_mem _)
end
theorem sh_cellR : ShapeR Tryd.prog 62 cellC (fun x => True ∧ x.2.length ≤ reachBytes) :=
  ShapeR.map (shapeR_struct Tryd.underlying62 (by kernel_rfl) (shapeR_cons (k := 1) rfl (by kernel_rfl) sh_bool.reach (by kernel_rfl) (shapeR_one (k := 1) rfl (by kernel_rfl) (shapeR_bytes Tryd.underlying59 (by kernel_rfl) (of_decide_eq_true (by kernel_rfl)) Tryd.underlying5)))) (fun p => (p.1, p.2)) (fun _ => rfl) (fun _ h => h)
theorem sh_cellRB : ShapeR Tryd.prog 31 (fun l : List Cl => [.sl 2 (enc cellC l) none .no]) (fun l => l.length * 32 ≤ reachBytes ∧ ∀ x ∈ l, True ∧ x.2.length ≤ reachBytes) := shapeR_sliceB Tryd.underlying31 (by kernel_rfl) (by decide) (by kernel_rfl) sh_cellR (fun _ => rfl)
end Go.Proofs.YtmdapcmdlblnnaaDoor.Ax
namespace Go.Proofs.YtmdapcmdlblnnaaDoor.Ax
open Go.RowKit Go By Dg
set_option linter.unusedSimpArgs false
set_option linter.unusedVariables false
set_option maxRecDepth 10000

/-- A call. -/
structure De where
  op : Int
  text : List UInt8
  st : Int
  v : Vb
  ps : List Cl
def deC (d : De) : List AV := [.v (.int .i64 d.op), .v (.string (strB d.text)), .v (.int .u8 d.st), .v (.int .i64 d.v.kind), .v (.int .i64 d.v.n), .v (.string (strB d.v.code)), .sl 2 (enc cellC d.ps) none .no]
@[simp] theorem deC_len (d : De) : (deC d).length = 7 := of_eq_true (eq_self _)
@[simp] theorem deC_unown (d : De) : (deC d).map AV.unown = deC d := of_eq_true (eq_self _)
@[simp] theorem deC_take (d : De) : List.take 7 (deC d) = deC d := of_eq_true (eq_self _)
@[simp] theorem deC_0 (d : De) : (deC d)[0]? = some (.v (.int .i64 d.op)) := of_eq_true (eq_self _)
@[simp] theorem deC_1 (d : De) : (deC d)[1]? = some (.v (.string (strB d.text))) := of_eq_true (eq_self _)
@[simp] theorem deC_2 (d : De) : (deC d)[2]? = some (.v (.int .u8 d.st)) := of_eq_true (eq_self _)
@[simp] theorem deC_6 (d : De) : (deC d)[6]? = some (.sl 2 (enc cellC d.ps) none .no) := of_eq_true (eq_self _)
@[simp] theorem deC_g0 (d : De) (h : 0 < (deC d).length) : (deC d)[0] = .v (.int .i64 d.op) := of_eq_true (eq_self _)
@[simp] theorem deC_g1 (d : De) (h : 1 < (deC d).length) : (deC d)[1] = .v (.string (strB d.text)) := of_eq_true (eq_self _)
@[simp] theorem deC_g2 (d : De) (h : 2 < (deC d).length) : (deC d)[2] = .v (.int .u8 d.st) := of_eq_true (eq_self _)
@[simp] theorem deC_g6 (d : De) (h : 6 < (deC d).length) : (deC d)[6] = .sl 2 (enc cellC d.ps) none .no := of_eq_true (eq_self _)
@[simp] theorem deC_verb (d : De) : List.take 3 (List.drop 3 (deC d)) = vbC d.v := of_eq_true (eq_self _)
theorem deC_mk (d : De) : deC d = [.v (.int .i64 d.op), .v (.string (strB d.text)), .v (.int .u8 d.st), .v (.int .i64 d.v.kind), .v (.int .i64 d.v.n), .v (.string (strB d.v.code)), .sl 2 (enc cellC d.ps) none .no] := rfl
@[simp] theorem deC_lt (n : Nat) (d : De) : ltL n (deC d) := by simp [deC_mk]
@[simp] theorem ltLL_deC (n : Nat) (l : List De) : ltLL n (enc deC l) := ltLL_enc _ n (deC_lt n) l
def OkDe (d : De) : Prop := d.text.length ≤ reachBytes ∧ d.ps.length * 32 ≤ reachBytes ∧ ∀ x ∈ d.ps, True ∧ x.2.length ≤ reachBytes
theorem sh_deR : ShapeR Tryd.prog 33 deC OkDe :=
  ShapeR.map (shapeR_struct Tryd.underlying33 (by kernel_rfl) (shapeR_cons (k := 1) rfl (by kernel_rfl) sh_int.reach (by kernel_rfl) (shapeR_cons (k := 1) rfl (by kernel_rfl) (shapeR_str Tryd.underlying9) (by kernel_rfl) (shapeR_cons (k := 1) rfl (by kernel_rfl) sh_u8.reach (by kernel_rfl)
    (shapeR_cons (k := 3) rfl (by kernel_rfl) sh_vbC.reach (by kernel_rfl) (shapeR_one (k := 1) rfl (by kernel_rfl) sh_cellRB)))))) (fun p => ⟨p.1, p.2.1, p.2.2.1, p.2.2.2.1, p.2.2.2.2⟩) (fun _ => rfl) (fun _ h => ⟨h.2.1, h.2.2.2.2.1, h.2.2.2.2.2⟩)
theorem sh_deRL : ShapeR Tryd.prog 22 (fun l : List De => [.sl 7 (enc deC l) none .no]) (fun l => l.length ≤ reachBytes ∧ ∀ d ∈ l, OkDe d) := shapeR_slice Tryd.underlying22 (by kernel_rfl) (by decide) (of_decide_eq_true (by kernel_rfl)) sh_deR (fun _ => rfl)

/-! ### Nobody's -/
section
variable {h : List (List AV)} {p : AV}
end
end Go.Proofs.YtmdapcmdlblnnaaDoor.Ax
