/- Slices of structs of one-cell fields that came in, opened: what each element's cells hold. No program is named here. -/
import Derived.Test.YtngmfgdoopkkdaaOpen
namespace Go.Proofs.Ytngmfgdoopkkdaa.By
open Go.RowKit Go.Deep Go.ChangeShapes Go.WideShapes Go.ChangeAt Go.Joins Go

/-- A slice's address holds these elements, of k cells each, and lies below block B. -/
def Elems (w : World) (B : Nat) (a : Option Addr) (k : Nat) (es : List (List Value)) : Prop :=
  0 < es.length → ∃ b off, a = some ⟨b, off, none⟩ ∧ b < B ∧ ∀ i, i < es.length → ∀ j u, (es.getD i [])[j]? = some u → w.cell? ⟨b, off + i * k + j, none⟩ = some u
section
variable {w w' : World} {B : Nat} {a : Option Addr} {k : Nat} {es : List (List Value)}
theorem Elems.keep (h : Elems w B a k es) (hk : ∀ p : Addr, p.block < B → w'.cell? p = w.cell? p) : Elems w' B a k es := fun hn => by
  obtain ⟨b, off, e, hb, hc⟩ := h hn
  exact ⟨b, off, e, hb, fun i hi j u hu => (hk _ hb).trans (hc i hi j u hu)⟩
theorem Elems.below (h : Elems w B a k es) (hb : Below B w w') : Elems w' B a k es := h.keep fun _ hp => hb.cell hp
end

section
variable {H : Type} {enc : TypeId × Value → H} {P : Program} {w : World} {base : Nat} {held : Bool}
/-- What is known of an element: each of its cells reads as its field's type does. -/
def Reads (enc : TypeId × Value → H) (P : Program) (w : World) (base : Nat) (held : Bool) (fs : Array Field) (e : List Value) : Prop :=
  e.length = fs.size ∧ ∃ n : Nat, ∀ (j : Nat) (f : Field), fs[j]? = some f → ∃ u y, e[j]? = some u ∧ DataW.trod enc P w base (fun _ => true) held n f.type [u] = some y

/-- An element of k cells, read off memory. -/
theorem reads_of {e : TypeId} {fs : Array Field} {cs : List Value} {n : Nat} {y : DataW H × List MemPlace} (he : P.underlying e = some (.struct fs)) (hone : oneCellFields P fs = true) (hC : P.cellsOf e = fs.size) (h : DataW.trod enc P w base (fun _ => true) held n e cs = some y) : Reads enc P w base held fs cs := by
  obtain ⟨ys, n', _, _, hlen, hyl, hf⟩ := DataW.trod_struct he h
  rw [hC] at hlen
  refine ⟨hlen, n', fun j f hj => ?_⟩
  have hj' : j < fs.size := (Array.getElem?_eq_some_iff.1 hj).1
  obtain ⟨ho, hk⟩ := hone_of hone j f hj
  have g := hf j f hj
  rw [ho, hk, take1_drop cs j undef (by omega)] at g
  have hy : ys[j]? = some (ys[j]'(by omega)) := List.getElem?_eq_getElem (by omega)
  rw [List.getD_eq_getElem?_getD, List.getElem?_eq_getElem (by omega), Option.getD_some] at g
  exact ⟨cs[j]'(by omega), ys[j]'(by omega), List.getElem?_eq_getElem (by omega), g.trans hy⟩

theorem open_elems {t e : TypeId} {fs : Array Field} {fuel : Nat} {v : Value} {x : DataW H × List MemPlace} (ht : P.underlying t = some (.slice e)) (he : P.underlying e = some (.struct fs)) (hone : oneCellFields P fs = true) (hC : P.cellsOf e = fs.size) (hpos : 0 < fs.size)
    (h : DataW.trod enc P w base (fun _ => true) held fuel t [v] = some x) :
    ∃ a len cap es, v = .slice a len cap ∧ es.length = len ∧ Elems w w.heap.size a fs.size es ∧ (a = none → cap = 0) ∧ len ≤ cap ∧ cap ≤ maxLen ∧ ∀ e ∈ es, Reads enc P w base held fs e := by
  rcases open_slice ht h with ⟨hcs, _⟩ | ⟨a, len, cap, m, n, D, Pl, hcs, _, hl, hcm, hm, _, hi⟩
  · simp at hcs
    exact ⟨none, 0, 0, [], hcs, rfl, fun hp => by simp at hp, fun _ => rfl, Nat.le_refl _, by simp [maxLen], fun e he => by cases he⟩
  · simp at hcs
    simp at hm
    have hel : ∀ i, ∃ cs' : List Value, i < len → Reads enc P w base held fs cs' ∧ ∀ j u, cs'[j]? = some u → w.cell? ((a.add (i * fs.size)).add j) = some u := by
      intro i
      by_cases hlt : i < len
      · obtain ⟨cs', hc, ht'⟩ := hi i (by omega)
        rw [hC] at hc
        obtain ⟨_, hlen, hat⟩ := World.cells?_some hc
        refine ⟨cs', fun _ => ⟨reads_of he hone hC ht', fun j u hu => ?_⟩⟩
        have hj : j < fs.size := by rw [← hlen]; exact (List.getElem?_eq_some_iff.1 hu).1
        rw [hat j hj, hu]
      · exact ⟨[], fun hh => absurd hh hlt⟩
    obtain ⟨es, hes⟩ := Classical.axiomOfChoice hel
    refine ⟨some a, len, cap, (List.range len).map es, hcs, by simp, fun hp => ?_, fun hh => by (cases hh), hl, hcm, fun e hme => ?_⟩
    · have hp' : 0 < len := by simpa using hp
      obtain ⟨b, off, spot⟩ := a
      obtain ⟨⟨hl0, _⟩, hc0⟩ := hes 0 hp'
      have h0 := hc0 0 _ (List.getElem?_eq_getElem (by omega))
      have hs : spot = none := by simpa [Addr.add] using World.cell?_spot h0
      subst hs
      refine ⟨b, off, rfl, ?_, fun i hi' j u hu => ?_⟩
      · rw [add_plain, add_plain] at h0; exact lt_of_cell h0
      · have hi2 : i < len := by simpa using hi'
        have e1 : ((List.range len).map es).getD i [] = es i := by
          rw [List.getD_eq_getElem?_getD, List.getElem?_map, List.getElem?_range hi2]; rfl
        rw [e1] at hu
        have := (hes i hi2).2 j u hu
        rw [add_plain, add_plain] at this
        exact this
    · obtain ⟨i, hi', rfl⟩ := List.mem_map.1 hme
      exact (hes i (List.mem_range.1 hi')).1

/-- A struct of one-cell fields by value. -/
theorem open_struct {r : Reach} {b0 : Nat} {t : TypeId} {fs : Array Field} {v : Value} {d : DataW H} {p : List MemPlace} (hs : P.underlying t = some (.struct fs)) (hone : oneCellFields P fs = true) (hC : P.cellsOf t = fs.size)
    (hv : Value.okWide P w r b0 t v) (h : DataW.Trod enc P w base (fun _ => true) held t v d p) : ∃ cs : List Value, v = .agg cs.toArray ∧ Reads enc P w base held fs cs := by
  obtain ⟨cs, rfl, _⟩ := okWide_struct hs hv
  obtain ⟨fuel, hf⟩ := h
  exact ⟨cs.toList, by simp, reads_of hs hone hC (by simpa [Value.cells] using hf)⟩
theorem Reads.at_ {fs : Array Field} {e : List Value} (h : Reads enc P w base held fs e) (j : Nat) (f : Field) (hj : fs[j]? = some f) : ∃ u n y, e[j]? = some u ∧ DataW.trod enc P w base (fun _ => true) held n f.type [u] = some y := by
  obtain ⟨_, n, hf⟩ := h
  obtain ⟨u, y, h1, h2⟩ := hf j f hj
  exact ⟨u, n, y, h1, h2⟩

/-- A field that is a number, a bool, a text. -/
theorem Reads.int {fs : Array Field} {e : List Value} {k : IntKind} (h : Reads enc P w base held fs e) (j : Nat) (f : Field) (hj : fs[j]? = some f) (ht : P.underlying f.type = some (.int k)) : ∃ n, e[j]? = some (.int k n) ∧ (Lit.int k n).wf = true := by
  obtain ⟨u, _, _, hu, hd⟩ := h.at_ j f hj
  obtain ⟨n, e1, _, hw⟩ := DataW.trod_int ht hd
  simp at e1
  exact ⟨n, by rw [hu, e1], hw⟩
theorem Reads.bool {fs : Array Field} {e : List Value} (h : Reads enc P w base held fs e) (j : Nat) (f : Field) (hj : fs[j]? = some f) (ht : P.underlying f.type = some .bool) : ∃ b, e[j]? = some (.bool b) := by
  obtain ⟨u, _, _, hu, hd⟩ := h.at_ j f hj
  obtain ⟨b, e1, _⟩ := DataW.trod_bool ht hd
  simp at e1
  exact ⟨b, by rw [hu, e1]⟩
theorem Reads.string {fs : Array Field} {e : List Value} (h : Reads enc P w base held fs e) (j : Nat) (f : Field) (hj : fs[j]? = some f) (ht : P.underlying f.type = some .string) : ∃ s : ByteArray, e[j]? = some (.string s) ∧ s.size ≤ maxLen := by
  obtain ⟨u, _, _, hu, hd⟩ := h.at_ j f hj
  obtain ⟨s, e1, _, hs⟩ := DataW.trod_string ht hd
  simp at e1
  exact ⟨s, by rw [hu, e1], hs⟩
/-- A field that is a slice of bytes; of numbers; of structs. -/
theorem Reads.bytes {fs : Array Field} {e : List Value} {el : TypeId} (h : Reads enc P w base held fs e) (j : Nat) (f : Field) (hj : fs[j]? = some f) (ht : P.underlying f.type = some (.slice el)) (he : P.underlying el = some (.int .u8)) (hc : P.cellsOf el = 1) :
    ∃ a len cap zs, e[j]? = some (.slice a len cap) ∧ Row w a len cap zs := by
  obtain ⟨u, _, _, hu, hd⟩ := h.at_ j f hj
  obtain ⟨a, len, cap, zs, rfl, hr⟩ := row_of_trod ht he hc hd
  exact ⟨a, len, cap, zs, hu, hr⟩
/-- A slice of numbers that came in. -/
def Ints (w : World) (k : IntKind) (a : Option Addr) (len cap : Nat) (zs : List Int) : Prop :=
  zs.length = len ∧ (a = none → cap = 0) ∧ len ≤ cap ∧ cap ≤ maxLen ∧ (∀ n ∈ zs, (Lit.int k n).wf = true) ∧ (0 < len → ∃ b off, a = some ⟨b, off, none⟩ ∧ b < w.heap.size ∧ ∀ i, i < len → w.cell? ⟨b, off + i, none⟩ = some (.int k (zs.getD i 0)))
theorem ints_of_trod {t e : TypeId} {k : IntKind} {fuel : Nat} {v : Value} {x : DataW H × List MemPlace} (ht : P.underlying t = some (.slice e)) (he : P.underlying e = some (.int k)) (hc : P.cellsOf e = 1)
    (h : DataW.trod enc P w base (fun _ => true) held fuel t [v] = some x) : ∃ a len cap zs, v = .slice a len cap ∧ Ints w k a len cap zs := by
  rcases open_ints ht he hc h with ⟨hcs, _⟩ | ⟨a, l, c, zs, hcs, _, hl, hm, hz, _, hcell, hwz⟩
  · simp at hcs
    exact ⟨_, _, _, [], hcs, rfl, fun _ => rfl, Nat.le_refl _, by simp [maxLen], fun n hn => by (cases hn), fun hp => by omega⟩
  · simp at hcs hz
    refine ⟨_, _, _, zs.take l, hcs, by rw [List.length_take]; omega, fun hh => by (cases hh), hl, hm, fun n hn => hwz n (List.mem_of_mem_take hn), fun hp => ?_⟩
    obtain ⟨b, off, spot⟩ := a
    have h0 := hcell 0 (by omega)
    have hs : spot = none := by simpa [Addr.add] using World.cell?_spot h0
    subst hs
    refine ⟨b, off, rfl, ?_, fun i hi => ?_⟩
    · rw [add_plain] at h0; exact lt_of_cell h0
    · have h1 := hcell i (by omega)
      rw [add_plain] at h1
      rw [h1, List.getD_eq_getElem?_getD, List.getD_eq_getElem?_getD, List.getElem?_take, if_pos hi]
theorem Reads.ints {fs : Array Field} {e : List Value} {el : TypeId} {k : IntKind} (h : Reads enc P w base held fs e) (j : Nat) (f : Field) (hj : fs[j]? = some f) (ht : P.underlying f.type = some (.slice el)) (he : P.underlying el = some (.int k)) (hc : P.cellsOf el = 1) :
    ∃ a len cap zs, e[j]? = some (.slice a len cap) ∧ Ints w k a len cap zs := by
  obtain ⟨u, _, _, hu, hd⟩ := h.at_ j f hj
  obtain ⟨a, len, cap, zs, rfl, hr⟩ := ints_of_trod ht he hc hd
  exact ⟨a, len, cap, zs, hu, hr⟩
theorem Reads.elems {fs gs : Array Field} {e : List Value} {el : TypeId} (h : Reads enc P w base held fs e) (j : Nat) (f : Field) (hj : fs[j]? = some f) (ht : P.underlying f.type = some (.slice el)) (he : P.underlying el = some (.struct gs)) (hone : oneCellFields P gs = true) (hC : P.cellsOf el = gs.size) (hpos : 0 < gs.size) :
    ∃ a len cap es, e[j]? = some (.slice a len cap) ∧ es.length = len ∧ Elems w w.heap.size a gs.size es ∧ (a = none → cap = 0) ∧ len ≤ cap ∧ cap ≤ maxLen ∧ ∀ e ∈ es, Reads enc P w base held gs e := by
  obtain ⟨u, _, _, hu, hd⟩ := h.at_ j f hj
  obtain ⟨a, len, cap, es, rfl, hr⟩ := open_elems ht he hone hC hpos hd
  exact ⟨a, len, cap, es, hu, hr⟩

/-- Elements that are two texts each. -/
theorem texts_of {fs : Array Field} {f0 f1 : Field} {es : List (List Value)} (h0 : fs[0]? = some f0) (h1 : fs[1]? = some f1) (hz : fs.size = 2) (t0 : P.underlying f0.type = some .string) (t1 : P.underlying f1.type = some .string) (h : ∀ e ∈ es, Reads enc P w base held fs e) :
    ∃ ps : List (ByteArray × ByteArray), es = ps.map (fun p => [.string p.1, .string p.2]) ∧ ∀ p ∈ ps, p.1.size ≤ maxLen ∧ p.2.size ≤ maxLen := by
  induction es with
  | nil => exact ⟨[], rfl, fun p hp => by cases hp⟩
  | cons e es ih =>
    obtain ⟨ps, rfl, hps⟩ := ih fun e' he' => h e' (List.mem_cons_of_mem _ he')
    have hr := h e (List.mem_cons_self ..)
    obtain ⟨s0, e0, z0⟩ := hr.string 0 f0 h0 t0
    obtain ⟨s1, e1, z1⟩ := hr.string 1 f1 h1 t1
    have hl : e.length = 2 := hr.1.trans hz
    refine ⟨(s0, s1) :: ps, ?_, fun p hp => ?_⟩
    · match e, hl with
      | [x, y], _ =>
        simp at e0 e1
        subst e0 e1
        rfl
    · rcases List.mem_cons.1 hp with rfl | hp
      · exact ⟨z0, z1⟩
      · exact hps p hp

/-- As arguments: a slice of numbers, a slice of structs. -/
theorem open_ints_arg {r : Reach} {b0 : Nat} {t e : TypeId} {k : IntKind} {v : Value} {d : DataW H} {p : List MemPlace} (ht : P.underlying t = some (.slice e)) (he : P.underlying e = some (.int k)) (hc : P.cellsOf e = 1)
    (hv : Value.okWide P w r b0 t v) (h : DataW.Trod enc P w base (fun _ => true) held t v d p) : ∃ a len cap zs, v = .slice a len cap ∧ Ints w k a len cap zs := by
  obtain ⟨a, len, cap, rfl⟩ := okWide_slice ht hv
  obtain ⟨fuel, hf⟩ := h
  exact ints_of_trod ht he hc (by simpa [Value.cells] using hf)
/-- What is known of a slice of structs. -/
def ElemsOf (enc : TypeId × Value → H) (P : Program) (w : World) (base : Nat) (held : Bool) (fs : Array Field) (a : Option Addr) (len cap : Nat) (es : List (List Value)) : Prop :=
  es.length = len ∧ Elems w w.heap.size a fs.size es ∧ (a = none → cap = 0) ∧ len ≤ cap ∧ cap ≤ maxLen ∧ ∀ e ∈ es, Reads enc P w base held fs e
theorem open_elems_arg {r : Reach} {b0 : Nat} {t e : TypeId} {fs : Array Field} {v : Value} {d : DataW H} {p : List MemPlace} (ht : P.underlying t = some (.slice e)) (he : P.underlying e = some (.struct fs)) (hone : oneCellFields P fs = true) (hC : P.cellsOf e = fs.size) (hpos : 0 < fs.size)
    (hv : Value.okWide P w r b0 t v) (h : DataW.Trod enc P w base (fun _ => true) held t v d p) : ∃ a len cap es, v = .slice a len cap ∧ ElemsOf enc P w base held fs a len cap es := by
  obtain ⟨a, len, cap, rfl⟩ := okWide_slice ht hv
  obtain ⟨fuel, hf⟩ := h
  exact open_elems ht he hone hC hpos (by simpa [Value.cells] using hf)
end
end Go.Proofs.Ytngmfgdoopkkdaa.By
