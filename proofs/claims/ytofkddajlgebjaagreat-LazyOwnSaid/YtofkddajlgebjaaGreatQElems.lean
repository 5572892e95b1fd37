/- Slices of structs of one-cell fields that came in, opened: what each element's cells hold. No program is named here. -/
import Derived.WalkKit
import Derived.WalkSpells
import Derived.WalkLawsBesides
import Derived.Lib.Hide
import Derived.Deep.Draws
import Derived.Deep.AppendLies
import Derived.Maps.AppendAt
import Derived.Laws.CopyOwn
import Derived.Laws.AppendOwnNone
import Derived.Laws.BytesArg
import Derived.Lib.Strings
import Derived.Deep.Slices
import Derived.Deep.Fields
import Derived.ChangeSame
import Derived.ProofKit
import Derived.OpenShut
import Derived.ShutString
import Derived.ChangeOld
import Derived.Lib.SmallJoins
/- Plain words on bytes: a byte of a list, numbers read from bytes, and what it means that a slice in memory holds a list of bytes. No program is named here. -/
namespace Go.Proofs.YtofkddajlgebjaaGreat.By
open Go.RowKit Go

/-- Byte number i, as a number; 0 behind the end. -/
def byteAt (xs : List UInt8) (i : Nat) : Int := ((xs.getD i 0).toNat : Int)
/-- The number that k bytes from 'at' on are, the highest first. -/
def getI (xs : List UInt8) (i : Nat) : Nat → Int
  | 0 => 0
  | k + 1 => getI xs i k * 256 + byteAt xs (i + k)
/-- A slice's address holds these bytes, and lies below block B. -/
def BytesAt (w : World) (B : Nat) (a : Option Addr) (xs : List UInt8) : Prop :=
  0 < xs.length → ∃ b off, a = some ⟨b, off, none⟩ ∧ b < B ∧ ∀ i, i < xs.length → w.cell? ⟨b, off + i, none⟩ = some (.int .u8 (byteAt xs i))

section
variable {w w' : World} {B B' : Nat} {a : Option Addr} {xs : List UInt8}
theorem BytesAt.nil : BytesAt w B a [] := fun h => by simp at h
theorem BytesAt.keep (h : BytesAt w B a xs) (hk : ∀ p : Addr, p.block < B → w'.cell? p = w.cell? p) : BytesAt w' B a xs := fun hn => by
  obtain ⟨b, off, e, hb, hc⟩ := h hn
  exact ⟨b, off, e, hb, fun i hi => (hk _ hb).trans (hc i hi)⟩
theorem BytesAt.below (h : BytesAt w B a xs) (hb : Below B w w') : BytesAt w' B a xs := h.keep fun _ hp => hb.cell hp
end

/-- The cells that hold these bytes. -/
def vals (xs : List UInt8) : List Value := xs.map fun c => Value.int .u8 (c.toNat : Int)
theorem vals_length (xs : List UInt8) : (vals xs).length = xs.length := by simp [vals]
theorem vals_append (xs ys : List UInt8) : vals (xs ++ ys) = vals xs ++ vals ys := by simp [vals]
theorem vals_one (xs : List UInt8) : ∀ u ∈ vals xs, u.oneCell' = true := by
  intro u hu
  obtain ⟨c, _, rfl⟩ := List.mem_map.1 hu
  rfl
theorem vals_at (xs : List UInt8) (i : Nat) (h : i < xs.length) : (vals xs)[i]? = some (.int .u8 (byteAt xs i)) := by
  simp [vals, byteAt, List.getD, h]
theorem add_plain (b off j : Nat) : (⟨b, off, none⟩ : Addr).add j = ⟨b, off + j, none⟩ := by
  unfold Addr.add; by_cases h : j = 0 <;> simp [h]

/-- A value that this call made: a slice whose cells are these bytes, in a block from 'base' on. -/
def OwnB (E : TypeId) (w : World) (base : Nat) (v : Value) (xs : List UInt8) : Prop := w.ownsRow base E 1 v xs.length (vals xs)
theorem OwnB.at_ {E : TypeId} {w : World} {base : Nat} {v : Value} {xs : List UInt8} (h : OwnB E w base v xs) :
    ∃ a cap, v = .slice a xs.length cap ∧ xs.length ≤ cap ∧ cap ≤ maxLen ∧ BytesAt w w.heap.size a xs := by
  have h0 := h
  obtain ⟨_, h2⟩ := h
  rcases h2 with ⟨rfl, hn⟩ | ⟨g, cap, cur, rfl, hg, hh, hnc, hcm, hcs, ht⟩
  · exact ⟨none, 0, by rw [hn], by omega, by simp [maxLen], fun hp => by omega⟩
  · refine ⟨_, _, rfl, hnc, hcm, fun hp => ⟨g, 0, rfl, ?_, fun i hi => ?_⟩⟩
    · obtain ⟨g', cap', e, _, hlt⟩ := World.ownsRow.form h0 hp
      simp at e
      rw [e.1]; exact hlt
    · have := World.ownsRow.cells h0 (g := g) rfl i _ (vals_at xs i hi)
      rw [add_plain] at this
      exact this
theorem BytesAt.lit {E : TypeId} (w : World) (xs : List UInt8) {B : Nat} (hB : w.heap.size < B) : BytesAt (w.alloc (.cells (vals xs).toArray E)) B (some ⟨w.heap.size, 0, none⟩) xs := fun _ =>
  ⟨w.heap.size, 0, rfl, hB, fun i hi => by
    rw [Nat.zero_add, cell_of_row _ _ i _ E (0, 0) (heap_alloc_new w _)]
    simpa using vals_at xs i hi⟩
theorem OwnB.of_block {E : TypeId} {w : World} {base g cap : Nat} {cur : List Value} {xs : List UInt8} (hg : w.heap[g]? = some (.cells cur.toArray E (0, 0))) (hb : base ≤ g)
    (hl : cur.length = cap) (hm : cap ≤ maxLen) (hn : xs.length ≤ cap) (ht : cur.take xs.length = vals xs) : OwnB E w base (.slice (some ⟨g, 0, none⟩) xs.length cap) xs :=
  ⟨by simp [vals], .inr ⟨g, cap, cur.toArray, rfl, hb, hg, hn, hm, by simp [hl], by simpa using ht⟩⟩

/-- 'make([]byte, n, n + m)'. -/
theorem wpList_make_bytes {P : Program} {w : World} {ops : Array Oper} {rest : List Oper} {o : Oper} {a : Act} {Q : Exit → Act → World → Prop} (hgd : o.guard = none) (l c : Operand) (t : TypeId)
    (hop : o.op = Op.makeSlice t l c) (e : TypeId) (i : TypeInfo) (ht : P.underlying t = some (.slice e)) (hi : P.info? e = some i) (hz : i.zero = some (.int .u8 0)) (hsize : i.size = 1) (hby : i.bytes = 1)
    (kl kc : IntKind) (n k : Nat) (L C : Int) (hl : a.eval l = .int kl L) (hc : a.eval c = .int kc C) (hL : L = (n : Int)) (hC : C = (k : Int)) (hnk : n ≤ k) (hk : k ≤ 281474976710656)
    (h : ∀ w', Hid (w'.heap[w.heap.size]? = some (.cells (List.replicate k (Value.int .u8 0)).toArray e (0, 0))) → Below w.heap.size w w' → w'.heap.size = w.heap.size + 1 → wpList P ops Q rest (a.put o.dst (.slice (some ⟨w.heap.size, 0, none⟩) n k)) w') :
    wpList P ops Q (o :: rest) a w := by
  refine wpList_plain hgd fun K hK => ?_
  subst hL hC
  have hr := run_make (P := P) w t e i _ ht hi hz kl kc n k (by omega) (by omega) (by rw [hby]; omega) (by omega)
  simp only [Int.toNat_natCast] at hr
  unfold Oper.wp
  simp [execOp, hop, hl, hc, hr, Result.andThen]
  refine hK _ _ (h _ ?_ ((Below.refl _ _).alloc (Nat.le_refl _) _) (by simp))
  show _ = _
  rw [heap_alloc_new, hsize, Nat.mul_one]
  congr 2
  apply Array.toList_inj.1
  rw [Value.cells, toList_madeCells_one]
  simp

/-- append of a slice that holds bytes (nil, empty or not) onto a slice of the call's own. -/
theorem wpList_append_bytes {P : Program} {w : World} {ops : Array Oper} {rest : List Oper} {o : Oper} {a : Act} {Q : Exit → Act → World → Prop} (hgd : o.guard = none) (s x : Operand) (t : TypeId)
    (ho : o.op = .call { callee := .builtin .append, args := #[s, x], argTypes := #[t, t] })
    (base : Nat) (e : TypeId) (i : TypeInfo) (ht : P.underlying t = some (.slice e)) (hi : P.info? e = some i) (hz : i.zero = some (.int .u8 0))
    (hsize : i.size = 1) (hby : i.bytes = 1)
    (v : Value) (xs : List UInt8) (hs : a.eval s = v) (hown : OwnB e w base v xs)
    (B : Nat) (A : Option Addr) (c : Nat) (ys : List UInt8) (hx : a.eval x = .slice A ys.length c) (hys : BytesAt w B A ys) (hc0 : A = none → c = 0)
    (hfit : xs.length + ys.length ≤ 140737488355328) (hbase : base ≤ w.heap.size)
    (h : ∀ v' w', OwnB e w' base v' (xs ++ ys) → w.grownBy w' v.ownBlock → (v'.ownBlock = v.ownBlock ∨ v'.ownBlock = some w.heap.size) → wpList P ops Q rest (a.put o.dst v') w') : wpList P ops Q (o :: rest) a w := by
  cases A with
  | none =>
    have h0 : ys.length = 0 := by
      rcases Nat.eq_zero_or_pos ys.length with h0 | h0
      · exact h0
      · obtain ⟨_, _, hh, _⟩ := hys h0
        cases hh
    have hn : ys = [] := List.eq_nil_of_length_eq_zero h0
    subst hn
    rw [hc0 rfl] at hx
    refine wpList_append_own_none hgd s x t ho base e i 1 ht hi v xs.length (vals xs) hs hown hx ?_
    have := h v w (by simpa using hown) (World.grownBy.refl w _) (.inl rfl)
    exact this
  | some ad =>
    refine wpList_append_own_at (w := w) hgd s x t ho base e i (.int .u8 0) 1 1 ht hi hz hsize hby rfl (by omega) v xs.length (vals xs) hs hown ad ys.length c (vals ys) hx (by simp [vals]) ?_ (vals_one ys) ?_ (by omega) hbase ?_
    · intro j u hu
      have hj : j < ys.length := by
        rcases Nat.lt_or_ge j ys.length with h1 | h1
        · exact h1
        · rw [List.getElem?_eq_none (by simpa [vals] using h1)] at hu; cases hu
      obtain ⟨b, off, he, _, hc⟩ := hys (by omega)
      injection he with he
      subst he
      rw [vals_at ys j hj] at hu
      injection hu with hu
      subst hu
      rw [add_plain]
      exact hc j hj
    · unfold maxLen; omega
    · intro v' w' hown' hg _ hat
      refine h v' w' ?_ hg hat
      have e1 : (xs ++ ys).length = xs.length + ys.length := List.length_append
      unfold OwnB
      rw [e1, vals_append]
      exact hown'

theorem OwnB.below_grown {E : TypeId} {w w' : World} {base : Nat} {v : Value} {xs : List UInt8} (h : OwnB E w base v xs) {W : World} (hb : Below base W w) (hbase : base ≤ w.heap.size)
    (hg : w.grownBy w' v.ownBlock) : Below base W w' := hb.grown hg hbase fun k hk => (World.ownsRow.lt h k hk).1

/-- append of one byte onto a slice of the call's own: the byte lies in a new block of one cell. -/
theorem wpList_append_byte {P : Program} {w0 : World} {ops : Array Oper} {rest : List Oper} {o : Oper} {a : Act} {Q : Exit → Act → World → Prop} (hgd : o.guard = none) (s x : Operand) (t : TypeId)
    (ho : o.op = .call { callee := .builtin .append, args := #[s, x], argTypes := #[t, t] })
    (base : Nat) (e : TypeId) (i : TypeInfo) (ht : P.underlying t = some (.slice e)) (hi : P.info? e = some i) (hz : i.zero = some (.int .u8 0))
    (hsize : i.size = 1) (hby : i.bytes = 1)
    (v : Value) (xs : List UInt8) (c : UInt8) (X : Int) (hX : X = (c.toNat : Int)) (hs : a.eval s = v) (hown : OwnB e w0 base v xs)
    (hx : a.eval x = .slice (some ⟨w0.heap.size, 0, none⟩) 1 1) (hfit : xs.length + 1 ≤ 140737488355328) (hbase : base ≤ w0.heap.size) (W : World) (hb : Below base W w0)
    (h : ∀ v' w', OwnB e w' base v' (xs ++ [c]) → Below base W w' → wpList P ops Q rest (a.put o.dst v') w') : wpList P ops Q (o :: rest) a (w0.alloc (.cells #[.int .u8 X] e)) := by
  subst hX
  have ho' : OwnB e (w0.alloc (.cells #[.int .u8 (c.toNat : Int)] e)) base v xs := World.ownsRow.alloc hown _
  have hb' : Below base W (w0.alloc (.cells #[.int .u8 (c.toNat : Int)] e)) := hb.alloc hbase _
  refine wpList_append_bytes hgd s x t ho base e i ht hi hz hsize hby v xs hs ho' (w0.heap.size + 1) (some ⟨w0.heap.size, 0, none⟩) 1 [c] hx
    (BytesAt.lit (E := e) w0 [c] (Nat.lt_succ_self _)) (fun hh => by cases hh) hfit (by simp; omega) fun v' w' h1 h2 _ => h v' w' h1 (ho'.below_grown hb' (by simp; omega) h2)

/-- The string of these bytes. -/
def strB (xs : List UInt8) : ByteArray := ⟨xs.toArray⟩
theorem strB_toList (xs : List UInt8) : (strB xs).toList = xs := by
  rw [ByteArray.toList_eq]; rfl
theorem strB_size (xs : List UInt8) : (strB xs).size = xs.length := by simp [strB, ByteArray.size]

/-- 'string(b)' at a slice that holds bytes. -/
theorem run_convert_bytesAt {P : Program} (src e dst : TypeId) (hs : P.underlying src = some (.slice e)) (he : P.underlying e = some (.int .u8)) (hd : P.underlying dst = some .string)
    (w : World) (B : Nat) (a : Option Addr) (cap : Nat) (xs : List UInt8) (h : BytesAt w B a xs) :
    (convert src dst (.slice a xs.length cap)).run P w = .ok (.string (strB xs)) w := by
  cases a with
  | none =>
    have h0 : xs.length = 0 := by
      rcases Nat.eq_zero_or_pos xs.length with h0 | h0
      · exact h0
      · obtain ⟨_, _, hh, _⟩ := h h0
        cases hh
    have hn : xs = [] := List.eq_nil_of_length_eq_zero h0
    subst hn
    exact run_convert_bytes_nil w src e hs he _ _ dst hd
  | some ad =>
    rw [run_convert_bytes_string w src dst e _ _ cap hs he hd]
    have hl : (loadCells ad xs.length).run P w = .ok (vals xs).toArray w := by
      have := run_loadCells_list (P := P) w ad (vals xs) (fun j v hj => by
        have hjl : j < xs.length := by
          rcases Nat.lt_or_ge j xs.length with h1 | h1
          · exact h1
          · rw [List.getElem?_eq_none (by simpa [vals] using h1)] at hj; cases hj
        obtain ⟨b, off, hh, _, hc⟩ := h (by omega)
        injection hh with hh
        subst hh
        rw [vals_at xs j hjl] at hj
        injection hj with hj
        subst hj
        rw [add_plain]
        exact hc j hjl)
      rw [vals_length] at this
      exact this
    have hm : vals xs = (xs.map fun c => (c.toNat : Int)).map (Value.int .u8) := by simp [vals]
    rw [hm] at hl
    rw [run_bytesToString w ad xs.length cap _ hl, foldl_push_bytes]
    congr 2
    have e1 : (xs.map fun c => (c.toNat : Int)).map (fun n => UInt8.ofNat n.toNat) = xs := by
      rw [List.map_map]
      have e2 : ((fun n : Int => UInt8.ofNat n.toNat) ∘ fun c : UInt8 => (c.toNat : Int)) = id := by
        funext c; simp
      rw [e2, List.map_id]
    rw [e1]
    simp [strB, ByteArray.empty, ByteArray.emptyWithCapacity]
    rfl

theorem u8_of_wf {x : Int} (h : (Lit.int .u8 x).wf = true) : 0 ≤ x ∧ x < 256 := by
  have lo : IntKind.u8.min = 0 := rfl
  have hi : IntKind.u8.max = 255 := rfl
  simp [Lit.wf] at h
  omega

/-- What the frame of a proof tells of a []byte that came in. -/
def Row (w : World) (a : Option Addr) (len cap : Nat) (zs : List Int) : Prop :=
  (a = none ∧ len = 0 ∧ cap = 0 ∧ zs = []) ∨
  ∃ x, a = some x ∧ len ≤ cap ∧ cap ≤ maxLen ∧ zs.length = cap ∧ (∀ i, i < zs.length → w.cell? (x.add i) = some (.int .u8 (zs.getD i 0))) ∧ ∀ n ∈ zs, (Lit.int .u8 n).wf = true
theorem lt_of_cell {w : World} {p : Addr} {v : Value} (h : w.cell? p = some v) : p.block < w.heap.size := by
  rcases Nat.lt_or_ge p.block w.heap.size with h1 | h1
  · exact h1
  · exfalso
    unfold World.cell? at h
    rw [Array.getElem?_eq_none h1] at h
    simp at h
theorem Row.bytes {w : World} {a : Option Addr} {len cap : Nat} {zs : List Int} (h : Row w a len cap zs) :
    ∃ xs : List UInt8, xs.length = len ∧ BytesAt w w.heap.size a xs ∧ (a = none → cap = 0) ∧ len ≤ cap ∧ cap ≤ maxLen := by
  rcases h with ⟨rfl, rfl, rfl, rfl⟩ | ⟨⟨b, off, spot⟩, rfl, hl, hm, hz, hc, hw⟩
  · exact ⟨[], rfl, BytesAt.nil, fun _ => rfl, Nat.le_refl _, by simp [maxLen]⟩
  · refine ⟨(zs.take len).map fun n => UInt8.ofNat n.toNat, by simp; omega, fun hp => ?_, fun hh => by (cases hh), hl, hm⟩
    have hp' : 0 < zs.length := by simp at hp; omega
    have h0 := hc 0 hp'
    have hs : spot = none := by simpa [Addr.add] using World.cell?_spot h0
    subst hs
    refine ⟨b, off, rfl, ?_, fun i hi => ?_⟩
    · rw [add_plain] at h0; exact lt_of_cell h0
    · have hi' : i < zs.length ∧ i < len := by simp at hi; omega
      have h1 := hc i hi'.1
      rw [add_plain] at h1
      rw [h1]
      have h2 := u8_of_wf (hw (zs.getD i 0) (by rw [List.getD_eq_getElem?_getD, List.getElem?_eq_getElem hi'.1]; exact List.getElem_mem _))
      have h3 : byteAt ((zs.take len).map fun n => UInt8.ofNat n.toNat) i = zs.getD i 0 := by
        unfold byteAt
        have e : ((zs.take len).map fun n => UInt8.ofNat n.toNat).getD i 0 = UInt8.ofNat (zs.getD i 0).toNat := by
          simp only [List.getD_eq_getElem?_getD, List.getElem?_map, List.getElem?_take, if_pos hi'.2, List.getElem?_eq_getElem hi'.1, Option.map_some, Option.getD_some]
        rw [e, UInt8.toNat_ofNat']
        omega
      rw [h3]
end Go.Proofs.YtofkddajlgebjaaGreat.By
/- Arguments opened: slices of bytes, slices of pairs of numbers, messages by value. No program is named here. -/
namespace Go.Proofs.YtofkddajlgebjaaGreat.By
open Go.RowKit Go.Deep Go.ChangeShapes Go.WideShapes Go.ChangeAt Go.Joins Go

section
variable {H : Type} {enc : TypeId × Value → H} {P : Program} {w : World} {base : Nat} {spare : Nat → Bool} {held : Bool}

/-- A slice of bytes that is read as such. -/
theorem row_of_trod {t e : TypeId} {fuel : Nat} {v : Value} {x : DataW H × List MemPlace} (ht : P.underlying t = some (.slice e)) (he : P.underlying e = some (.int .u8)) (hc : P.cellsOf e = 1)
    (h : DataW.trod enc P w base (fun _ => true) held fuel t [v] = some x) : ∃ a len cap zs, v = .slice a len cap ∧ Row w a len cap zs := by
  rcases open_ints ht he hc h with ⟨hcs, _⟩ | ⟨a, l, c, zs, hcs, _, hl, hm, hz, _, hcell, hwz⟩
  · simp at hcs
    exact ⟨_, _, _, [], hcs, .inl ⟨rfl, rfl, rfl, rfl⟩⟩
  · simp at hcs
    exact ⟨_, _, _, zs, hcs, .inr ⟨a, rfl, hl, hm, by simpa using hz, hcell, hwz⟩⟩
end
end Go.Proofs.YtofkddajlgebjaaGreat.By
namespace Go.Proofs.YtofkddajlgebjaaGreat.By
open Go.RowKit Go.Deep Go.ChangeShapes Go.WideShapes Go.ChangeAt Go.Joins Go

section
variable {w w' : World} {B : Nat} {a : Option Addr} {k : Nat} {es : List (List Value)}
end

section
variable {H : Type} {enc : TypeId × Value → H} {P : Program} {w : World} {base : Nat} {held : Bool}
/-- What is known of an element: each of its cells reads as its field's type does. -/
def Reads (enc : TypeId × Value → H) (P : Program) (w : World) (base : Nat) (held : Bool) (fs : Array Field) (e : List Value) : Prop :=
  e.length = fs.size ∧ ∃ n : Nat, ∀ (j : Nat) (f : Field), fs[j]? = some f → ∃ u y, e[j]? = some u ∧ DataW.trod enc P w base (fun _ => true) held n f.type [u] = some y

theorem Reads.at_ {fs : Array Field} {e : List Value} (h : Reads enc P w base held fs e) (j : Nat) (f : Field) (hj : fs[j]? = some f) : ∃ u n y, e[j]? = some u ∧ DataW.trod enc P w base (fun _ => true) held n f.type [u] = some y := by
  obtain ⟨_, n, hf⟩ := h
  obtain ⟨u, y, h1, h2⟩ := hf j f hj
  exact ⟨u, n, y, h1, h2⟩

/-- A field that is a number, a bool, a text. -/
theorem Reads.int {fs : Array Field} {e : List Value} {k : IntKind} (h : Reads enc P w base held fs e) (j : Nat) (f : Field) (hj : fs[j]? = some f) (ht : P.underlying f.type = some (.int k)) : ∃ n, e[j]? = some (.int k n) ∧ (Lit.int k n).wf = true := by
  obtain ⟨u, _, _, hu, hd⟩ := h.at_ j f hj
  obtain ⟨n, e1, _, hw⟩ := DataW.trod_int ht hd
  simp at e1
  exact ⟨n, by rw [hu, e1], hw⟩
/-- A field that is a slice of bytes; of numbers; of structs. -/
theorem Reads.bytes {fs : Array Field} {e : List Value} {el : TypeId} (h : Reads enc P w base held fs e) (j : Nat) (f : Field) (hj : fs[j]? = some f) (ht : P.underlying f.type = some (.slice el)) (he : P.underlying el = some (.int .u8)) (hc : P.cellsOf el = 1) :
    ∃ a len cap zs, e[j]? = some (.slice a len cap) ∧ Row w a len cap zs := by
  obtain ⟨u, _, _, hu, hd⟩ := h.at_ j f hj
  obtain ⟨a, len, cap, zs, rfl, hr⟩ := row_of_trod ht he hc hd
  exact ⟨a, len, cap, zs, hu, hr⟩
end
end Go.Proofs.YtofkddajlgebjaaGreat.By
