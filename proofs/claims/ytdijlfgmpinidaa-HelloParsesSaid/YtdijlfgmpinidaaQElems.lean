/- Slices of structs of one-cell fields that came in, opened: what each element's cells hold. No program is named here. -/
import Derived.WalkKit
import Derived.WalkSpells
import Derived.WalkLawsBesides
import Derived.Lib.Hide
import Derived.Deep.Draws
import Derived.Deep.AppendLies
import Derived.Maps.AppendAt
import Derived.Laws.CopyOwn
import Derived.Laws.AppendOwnNone
import Derived.Laws.BytesArg
import Derived.Lib.Strings
import Derived.Deep.Slices
import Derived.Deep.Fields
import Derived.ChangeSame
import Derived.ProofKit
import Derived.OpenShut
import Derived.ShutString
import Derived.ChangeOld
import Derived.Lib.SmallJoins
/- Plain words on bytes: a byte of a list, numbers read from bytes, and what it means that a slice in memory holds a list of bytes. No program is named here. -/
namespace Go.Proofs.Ytdijlfgmpinidaa.By
open Go.RowKit Go

/-- Byte number i, as a number; 0 behind the end. -/
def byteAt (xs : List UInt8) (i : Nat) : Int := ((xs.getD i 0).toNat : Int)
theorem byteAt_range (xs : List UInt8) (i : Nat) : 0 ≤ byteAt xs i ∧ byteAt xs i < 256 := by
  unfold byteAt; have := (xs.getD i 0).toNat_lt; omega
theorem byteAt_append_left (xs ys : List UInt8) (i : Nat) (h : i < xs.length) : byteAt (xs ++ ys) i = byteAt xs i := by
  unfold byteAt; rw [List.getD_eq_getElem?_getD, List.getElem?_append_left h, ← List.getD_eq_getElem?_getD]
theorem byteAt_append_right (xs ys : List UInt8) (i : Nat) : byteAt (xs ++ ys) (xs.length + i) = byteAt ys i := by
  unfold byteAt; rw [List.getD_eq_getElem?_getD, List.getElem?_append_right (by omega), ← List.getD_eq_getElem?_getD, Nat.add_sub_cancel_left]

/-- The number that k bytes from 'at' on are, the highest first. -/
def getI (xs : List UInt8) (i : Nat) : Nat → Int
  | 0 => 0
  | k + 1 => getI xs i k * 256 + byteAt xs (i + k)
theorem getI_range (xs : List UInt8) (i : Nat) : ∀ k, k ≤ 4 → 0 ≤ getI xs i k ∧ getI xs i k < 256 ^ k
  | 0, _ => by simp [getI]
  | k + 1, h => by
    have := getI_range xs i k (by omega)
    have hb := byteAt_range xs (i + k)
    rw [getI, Int.pow_succ]
    omega
theorem getI_lt (xs : List UInt8) (i k : Nat) (h : k ≤ 4) : 0 ≤ getI xs i k ∧ getI xs i k < 4294967296 := by
  have h1 := getI_range xs i k h
  have h2 : (256 : Int) ^ k ≤ 4294967296 := by
    rcases k with _ | _ | _ | _ | _ | k
    all_goals first | decide | omega
  omega
theorem getI_lt3 (xs : List UInt8) (i k : Nat) (h : k ≤ 3) : 0 ≤ getI xs i k ∧ getI xs i k < 16777216 := by
  have h1 := getI_range xs i k (by omega)
  have h2 : (256 : Int) ^ k ≤ 16777216 := by
    rcases k with _ | _ | _ | _ | k
    all_goals first | decide | omega
  omega

/-- 'or' of a number's higher bytes and a byte is their sum. -/
theorem or_nat (a b : Nat) (ha : a < 4294967296) (hb : b < 4294967296) : bits .or .i64 (a : Int) (b : Int) = ((a ||| b : Nat) : Int) := by
  have hx : a ||| b < 2 ^ 32 := Nat.or_lt_two_pow (by omega) (by omega)
  show IntKind.i64.wrap ((BitVec.ofInt 64 (a : Int) ||| BitVec.ofInt 64 (b : Int)).toNat : Int) = _
  rw [BitVec.toNat_or, ofInt_u64 a (by omega), ofInt_u64 b (by omega)]
  exact IntWalk.i64_in _ (by omega)
theorem or_byte (n c : Int) (h0 : 0 ≤ n) (h1 : n < 16777216) (h2 : 0 ≤ c) (h3 : c < 256) : bits .or .i64 (n * 256) c = n * 256 + c := by
  obtain ⟨a, rfl⟩ := Int.eq_ofNat_of_zero_le h0
  obtain ⟨b, rfl⟩ := Int.eq_ofNat_of_zero_le h2
  have hj : a * 256 ||| b = a * 256 + b := nat_join 8 (a * 256) b (by omega) (by omega)
  have := or_nat (a * 256) b (by omega) (by omega)
  rw [hj] at this
  simpa using this

/-- A slice's address holds these bytes, and lies below block B. -/
def BytesAt (w : World) (B : Nat) (a : Option Addr) (xs : List UInt8) : Prop :=
  0 < xs.length → ∃ b off, a = some ⟨b, off, none⟩ ∧ b < B ∧ ∀ i, i < xs.length → w.cell? ⟨b, off + i, none⟩ = some (.int .u8 (byteAt xs i))

section
variable {w w' : World} {B B' : Nat} {a : Option Addr} {xs : List UInt8}
theorem BytesAt.nil : BytesAt w B a [] := fun h => by simp at h
theorem BytesAt.keep (h : BytesAt w B a xs) (hk : ∀ p : Addr, p.block < B → w'.cell? p = w.cell? p) : BytesAt w' B a xs := fun hn => by
  obtain ⟨b, off, e, hb, hc⟩ := h hn
  exact ⟨b, off, e, hb, fun i hi => (hk _ hb).trans (hc i hi)⟩
theorem BytesAt.more (h : BytesAt w B a xs) (hB : B ≤ B') : BytesAt w B' a xs := fun hn => by
  obtain ⟨b, off, e, hb, hc⟩ := h hn
  exact ⟨b, off, e, by omega, hc⟩
theorem BytesAt.below (h : BytesAt w B a xs) (hb : Below B w w') : BytesAt w' B a xs := h.keep fun _ hp => hb.cell hp
theorem BytesAt.drew (h : BytesAt w B a xs) : BytesAt w.drew B a xs := h
theorem BytesAt.drewN (h : BytesAt w B a xs) (k : Nat) : BytesAt (w.drewN k) B a xs := h
theorem BytesAt.alloc (h : BytesAt w B a xs) (hB : B ≤ w.heap.size) (o : Obj) : BytesAt (w.alloc o) B a xs := h.keep fun p hp => World.cell?_alloc_lt w o p (by omega)
end

/-- The cells that hold these bytes. -/
def vals (xs : List UInt8) : List Value := xs.map fun c => Value.int .u8 (c.toNat : Int)
theorem vals_length (xs : List UInt8) : (vals xs).length = xs.length := by simp [vals]
theorem vals_append (xs ys : List UInt8) : vals (xs ++ ys) = vals xs ++ vals ys := by simp [vals]
theorem vals_one (xs : List UInt8) : ∀ u ∈ vals xs, u.oneCell' = true := by
  intro u hu
  obtain ⟨c, _, rfl⟩ := List.mem_map.1 hu
  rfl
theorem vals_at (xs : List UInt8) (i : Nat) (h : i < xs.length) : (vals xs)[i]? = some (.int .u8 (byteAt xs i)) := by
  simp [vals, byteAt, List.getD, h]
theorem add_plain (b off j : Nat) : (⟨b, off, none⟩ : Addr).add j = ⟨b, off + j, none⟩ := by
  unfold Addr.add; by_cases h : j = 0 <;> simp [h]

/-- A value that this call made: a slice whose cells are these bytes, in a block from 'base' on. -/
def OwnB (E : TypeId) (w : World) (base : Nat) (v : Value) (xs : List UInt8) : Prop := w.ownsRow base E 1 v xs.length (vals xs)
theorem OwnB.at_ {E : TypeId} {w : World} {base : Nat} {v : Value} {xs : List UInt8} (h : OwnB E w base v xs) :
    ∃ a cap, v = .slice a xs.length cap ∧ xs.length ≤ cap ∧ cap ≤ maxLen ∧ BytesAt w w.heap.size a xs := by
  have h0 := h
  obtain ⟨_, h2⟩ := h
  rcases h2 with ⟨rfl, hn⟩ | ⟨g, cap, cur, rfl, hg, hh, hnc, hcm, hcs, ht⟩
  · exact ⟨none, 0, by rw [hn], by omega, by simp [maxLen], fun hp => by omega⟩
  · refine ⟨_, _, rfl, hnc, hcm, fun hp => ⟨g, 0, rfl, ?_, fun i hi => ?_⟩⟩
    · obtain ⟨g', cap', e, _, hlt⟩ := World.ownsRow.form h0 hp
      simp at e
      rw [e.1]; exact hlt
    · have := World.ownsRow.cells h0 (g := g) rfl i _ (vals_at xs i hi)
      rw [add_plain] at this
      exact this
theorem OwnB.kept {E : TypeId} {w w' : World} {base : Nat} {v : Value} {xs : List UInt8} (h : OwnB E w base v xs) (hb : Below w.heap.size w w') : OwnB E w' base v xs :=
  World.ownsRow.kept h (row := none) ⟨hb.os, hb.tape, hb.output, hb.size, fun k hk _ => hb.block k hk⟩ (by
    rcases h.2 with ⟨rfl, _⟩ | ⟨g, cap, cur, rfl, _⟩
    · left; rfl
    · right; simp [Value.ownBlock])
theorem OwnB.base {E : TypeId} {w : World} {base base' : Nat} {v : Value} {xs : List UInt8} (h : OwnB E w base v xs) (hb : base' ≤ base) : OwnB E w base' v xs := by
  refine ⟨h.1, ?_⟩
  rcases h.2 with h2 | ⟨g, cap, cur, hv, hg, r⟩
  · exact .inl h2
  · exact .inr ⟨g, cap, cur, hv, by omega, r⟩

theorem OwnB.lit {E : TypeId} {w : World} {base : Nat} (xs : List UInt8) (hb : base ≤ w.heap.size) (hm : xs.length ≤ maxLen) :
    OwnB E (w.alloc (.cells (vals xs).toArray E)) base (.slice (some ⟨w.heap.size, 0, none⟩) xs.length xs.length) xs := by
  have := World.ownsRow_lit (base := base) (size := 1) (e := E) w (vals xs).toArray xs.length hb hm (by simp [vals])
  simpa [OwnB] using this
theorem BytesAt.lit {E : TypeId} (w : World) (xs : List UInt8) {B : Nat} (hB : w.heap.size < B) : BytesAt (w.alloc (.cells (vals xs).toArray E)) B (some ⟨w.heap.size, 0, none⟩) xs := fun _ =>
  ⟨w.heap.size, 0, rfl, hB, fun i hi => by
    rw [Nat.zero_add, cell_of_row _ _ i _ E (0, 0) (heap_alloc_new w _)]
    simpa using vals_at xs i hi⟩
theorem BytesAt.none_cap {w : World} {B : Nat} {a : Option Addr} {xs : List UInt8} (h : BytesAt w B a xs) (hn : a = none) : xs = [] := by
  rcases Nat.eq_zero_or_pos xs.length with h0 | h0
  · exact List.eq_nil_of_length_eq_zero h0
  · obtain ⟨_, _, hh, _⟩ := h h0
    rw [hn] at hh; cases hh

theorem OwnB.of_block {E : TypeId} {w : World} {base g cap : Nat} {cur : List Value} {xs : List UInt8} (hg : w.heap[g]? = some (.cells cur.toArray E (0, 0))) (hb : base ≤ g)
    (hl : cur.length = cap) (hm : cap ≤ maxLen) (hn : xs.length ≤ cap) (ht : cur.take xs.length = vals xs) : OwnB E w base (.slice (some ⟨g, 0, none⟩) xs.length cap) xs :=
  ⟨by simp [vals], .inr ⟨g, cap, cur.toArray, rfl, hb, hg, hn, hm, by simp [hl], by simpa using ht⟩⟩

/-- 'make([]byte, n, n + m)'. -/
theorem wpList_make_bytes {P : Program} {w : World} {ops : Array Oper} {rest : List Oper} {o : Oper} {a : Act} {Q : Exit → Act → World → Prop} (hgd : o.guard = none) (l c : Operand) (t : TypeId)
    (hop : o.op = Op.makeSlice t l c) (e : TypeId) (i : TypeInfo) (ht : P.underlying t = some (.slice e)) (hi : P.info? e = some i) (hz : i.zero = some (.int .u8 0)) (hsize : i.size = 1) (hby : i.bytes = 1)
    (kl kc : IntKind) (n k : Nat) (L C : Int) (hl : a.eval l = .int kl L) (hc : a.eval c = .int kc C) (hL : L = (n : Int)) (hC : C = (k : Int)) (hnk : n ≤ k) (hk : k ≤ 281474976710656)
    (h : ∀ w', Hid (w'.heap[w.heap.size]? = some (.cells (List.replicate k (Value.int .u8 0)).toArray e (0, 0))) → Below w.heap.size w w' → w'.heap.size = w.heap.size + 1 → wpList P ops Q rest (a.put o.dst (.slice (some ⟨w.heap.size, 0, none⟩) n k)) w') :
    wpList P ops Q (o :: rest) a w := by
  refine wpList_plain hgd fun K hK => ?_
  subst hL hC
  have hr := run_make (P := P) w t e i _ ht hi hz kl kc n k (by omega) (by omega) (by rw [hby]; omega) (by omega)
  simp only [Int.toNat_natCast] at hr
  unfold Oper.wp
  simp [execOp, hop, hl, hc, hr, Result.andThen]
  refine hK _ _ (h _ ?_ ((Below.refl _ _).alloc (Nat.le_refl _) _) (by simp))
  show _ = _
  rw [heap_alloc_new, hsize, Nat.mul_one]
  congr 2
  apply Array.toList_inj.1
  rw [Value.cells, toList_madeCells_one]
  simp

/-- append of a slice that holds bytes (nil, empty or not) onto a slice of the call's own. -/
theorem wpList_append_bytes {P : Program} {w : World} {ops : Array Oper} {rest : List Oper} {o : Oper} {a : Act} {Q : Exit → Act → World → Prop} (hgd : o.guard = none) (s x : Operand) (t : TypeId)
    (ho : o.op = .call { callee := .builtin .append, args := #[s, x], argTypes := #[t, t] })
    (base : Nat) (e : TypeId) (i : TypeInfo) (ht : P.underlying t = some (.slice e)) (hi : P.info? e = some i) (hz : i.zero = some (.int .u8 0))
    (hsize : i.size = 1) (hby : i.bytes = 1)
    (v : Value) (xs : List UInt8) (hs : a.eval s = v) (hown : OwnB e w base v xs)
    (B : Nat) (A : Option Addr) (c : Nat) (ys : List UInt8) (hx : a.eval x = .slice A ys.length c) (hys : BytesAt w B A ys) (hc0 : A = none → c = 0)
    (hfit : xs.length + ys.length ≤ 140737488355328) (hbase : base ≤ w.heap.size)
    (h : ∀ v' w', OwnB e w' base v' (xs ++ ys) → w.grownBy w' v.ownBlock → (v'.ownBlock = v.ownBlock ∨ v'.ownBlock = some w.heap.size) → wpList P ops Q rest (a.put o.dst v') w') : wpList P ops Q (o :: rest) a w := by
  cases A with
  | none =>
    have h0 : ys.length = 0 := by
      rcases Nat.eq_zero_or_pos ys.length with h0 | h0
      · exact h0
      · obtain ⟨_, _, hh, _⟩ := hys h0
        cases hh
    have hn : ys = [] := List.eq_nil_of_length_eq_zero h0
    subst hn
    rw [hc0 rfl] at hx
    refine wpList_append_own_none hgd s x t ho base e i 1 ht hi v xs.length (vals xs) hs hown hx ?_
    have := h v w (by simpa using hown) (World.grownBy.refl w _) (.inl rfl)
    exact this
  | some ad =>
    refine wpList_append_own_at (w := w) hgd s x t ho base e i (.int .u8 0) 1 1 ht hi hz hsize hby rfl (by omega) v xs.length (vals xs) hs hown ad ys.length c (vals ys) hx (by simp [vals]) ?_ (vals_one ys) ?_ (by omega) hbase ?_
    · intro j u hu
      have hj : j < ys.length := by
        rcases Nat.lt_or_ge j ys.length with h1 | h1
        · exact h1
        · rw [List.getElem?_eq_none (by simpa [vals] using h1)] at hu; cases hu
      obtain ⟨b, off, he, _, hc⟩ := hys (by omega)
      injection he with he
      subst he
      rw [vals_at ys j hj] at hu
      injection hu with hu
      subst hu
      rw [add_plain]
      exact hc j hj
    · unfold maxLen; omega
    · intro v' w' hown' hg _ hat
      refine h v' w' ?_ hg hat
      have e1 : (xs ++ ys).length = xs.length + ys.length := List.length_append
      unfold OwnB
      rw [e1, vals_append]
      exact hown'

theorem OwnB.below_grown {E : TypeId} {w w' : World} {base : Nat} {v : Value} {xs : List UInt8} (h : OwnB E w base v xs) {W : World} (hb : Below base W w) (hbase : base ≤ w.heap.size)
    (hg : w.grownBy w' v.ownBlock) : Below base W w' := hb.grown hg hbase fun k hk => (World.ownsRow.lt h k hk).1

/-- append of one byte onto a slice of the call's own: the byte lies in a new block of one cell. -/
theorem wpList_append_byte {P : Program} {w0 : World} {ops : Array Oper} {rest : List Oper} {o : Oper} {a : Act} {Q : Exit → Act → World → Prop} (hgd : o.guard = none) (s x : Operand) (t : TypeId)
    (ho : o.op = .call { callee := .builtin .append, args := #[s, x], argTypes := #[t, t] })
    (base : Nat) (e : TypeId) (i : TypeInfo) (ht : P.underlying t = some (.slice e)) (hi : P.info? e = some i) (hz : i.zero = some (.int .u8 0))
    (hsize : i.size = 1) (hby : i.bytes = 1)
    (v : Value) (xs : List UInt8) (c : UInt8) (X : Int) (hX : X = (c.toNat : Int)) (hs : a.eval s = v) (hown : OwnB e w0 base v xs)
    (hx : a.eval x = .slice (some ⟨w0.heap.size, 0, none⟩) 1 1) (hfit : xs.length + 1 ≤ 140737488355328) (hbase : base ≤ w0.heap.size) (W : World) (hb : Below base W w0)
    (h : ∀ v' w', OwnB e w' base v' (xs ++ [c]) → Below base W w' → wpList P ops Q rest (a.put o.dst v') w') : wpList P ops Q (o :: rest) a (w0.alloc (.cells #[.int .u8 X] e)) := by
  subst hX
  have ho' : OwnB e (w0.alloc (.cells #[.int .u8 (c.toNat : Int)] e)) base v xs := World.ownsRow.alloc hown _
  have hb' : Below base W (w0.alloc (.cells #[.int .u8 (c.toNat : Int)] e)) := hb.alloc hbase _
  refine wpList_append_bytes hgd s x t ho base e i ht hi hz hsize hby v xs hs ho' (w0.heap.size + 1) (some ⟨w0.heap.size, 0, none⟩) 1 [c] hx
    (BytesAt.lit (E := e) w0 [c] (Nat.lt_succ_self _)) (fun hh => by cases hh) hfit (by simp; omega) fun v' w' h1 h2 _ => h v' w' h1 (ho'.below_grown hb' (by simp; omega) h2)

/-- The string of these bytes. -/
def strB (xs : List UInt8) : ByteArray := ⟨xs.toArray⟩
theorem strB_toList (xs : List UInt8) : (strB xs).toList = xs := by
  rw [ByteArray.toList_eq]; rfl
theorem strB_size (xs : List UInt8) : (strB xs).size = xs.length := by simp [strB, ByteArray.size]

/-- 'string(b)' at a slice that holds bytes. -/
theorem run_convert_bytesAt {P : Program} (src e dst : TypeId) (hs : P.underlying src = some (.slice e)) (he : P.underlying e = some (.int .u8)) (hd : P.underlying dst = some .string)
    (w : World) (B : Nat) (a : Option Addr) (cap : Nat) (xs : List UInt8) (h : BytesAt w B a xs) :
    (convert src dst (.slice a xs.length cap)).run P w = .ok (.string (strB xs)) w := by
  cases a with
  | none =>
    have h0 : xs.length = 0 := by
      rcases Nat.eq_zero_or_pos xs.length with h0 | h0
      · exact h0
      · obtain ⟨_, _, hh, _⟩ := h h0
        cases hh
    have hn : xs = [] := List.eq_nil_of_length_eq_zero h0
    subst hn
    exact run_convert_bytes_nil w src e hs he _ _ dst hd
  | some ad =>
    rw [run_convert_bytes_string w src dst e _ _ cap hs he hd]
    have hl : (loadCells ad xs.length).run P w = .ok (vals xs).toArray w := by
      have := run_loadCells_list (P := P) w ad (vals xs) (fun j v hj => by
        have hjl : j < xs.length := by
          rcases Nat.lt_or_ge j xs.length with h1 | h1
          · exact h1
          · rw [List.getElem?_eq_none (by simpa [vals] using h1)] at hj; cases hj
        obtain ⟨b, off, hh, _, hc⟩ := h (by omega)
        injection hh with hh
        subst hh
        rw [vals_at xs j hjl] at hj
        injection hj with hj
        subst hj
        rw [add_plain]
        exact hc j hjl)
      rw [vals_length] at this
      exact this
    have hm : vals xs = (xs.map fun c => (c.toNat : Int)).map (Value.int .u8) := by simp [vals]
    rw [hm] at hl
    rw [run_bytesToString w ad xs.length cap _ hl, foldl_push_bytes]
    congr 2
    have e1 : (xs.map fun c => (c.toNat : Int)).map (fun n => UInt8.ofNat n.toNat) = xs := by
      rw [List.map_map]
      have e2 : ((fun n : Int => UInt8.ofNat n.toNat) ∘ fun c : UInt8 => (c.toNat : Int)) = id := by
        funext c; simp
      rw [e2, List.map_id]
    rw [e1]
    simp [strB, ByteArray.empty, ByteArray.emptyWithCapacity]
    rfl

theorem u8_of_wf {x : Int} (h : (Lit.int .u8 x).wf = true) : 0 ≤ x ∧ x < 256 := by
  have lo : IntKind.u8.min = 0 := rfl
  have hi : IntKind.u8.max = 255 := rfl
  simp [Lit.wf] at h
  omega

/-- What the frame of a proof tells of a []byte that came in. -/
def Row (w : World) (a : Option Addr) (len cap : Nat) (zs : List Int) : Prop :=
  (a = none ∧ len = 0 ∧ cap = 0 ∧ zs = []) ∨
  ∃ x, a = some x ∧ len ≤ cap ∧ cap ≤ maxLen ∧ zs.length = cap ∧ (∀ i, i < zs.length → w.cell? (x.add i) = some (.int .u8 (zs.getD i 0))) ∧ ∀ n ∈ zs, (Lit.int .u8 n).wf = true
theorem lt_of_cell {w : World} {p : Addr} {v : Value} (h : w.cell? p = some v) : p.block < w.heap.size := by
  rcases Nat.lt_or_ge p.block w.heap.size with h1 | h1
  · exact h1
  · exfalso
    unfold World.cell? at h
    rw [Array.getElem?_eq_none h1] at h
    simp at h
theorem Row.bytes {w : World} {a : Option Addr} {len cap : Nat} {zs : List Int} (h : Row w a len cap zs) :
    ∃ xs : List UInt8, xs.length = len ∧ BytesAt w w.heap.size a xs ∧ (a = none → cap = 0) ∧ len ≤ cap ∧ cap ≤ maxLen := by
  rcases h with ⟨rfl, rfl, rfl, rfl⟩ | ⟨⟨b, off, spot⟩, rfl, hl, hm, hz, hc, hw⟩
  · exact ⟨[], rfl, BytesAt.nil, fun _ => rfl, Nat.le_refl _, by simp [maxLen]⟩
  · refine ⟨(zs.take len).map fun n => UInt8.ofNat n.toNat, by simp; omega, fun hp => ?_, fun hh => by (cases hh), hl, hm⟩
    have hp' : 0 < zs.length := by simp at hp; omega
    have h0 := hc 0 hp'
    have hs : spot = none := by simpa [Addr.add] using World.cell?_spot h0
    subst hs
    refine ⟨b, off, rfl, ?_, fun i hi => ?_⟩
    · rw [add_plain] at h0; exact lt_of_cell h0
    · have hi' : i < zs.length ∧ i < len := by simp at hi; omega
      have h1 := hc i hi'.1
      rw [add_plain] at h1
      rw [h1]
      have h2 := u8_of_wf (hw (zs.getD i 0) (by rw [List.getD_eq_getElem?_getD, List.getElem?_eq_getElem hi'.1]; exact List.getElem_mem _))
      have h3 : byteAt ((zs.take len).map fun n => UInt8.ofNat n.toNat) i = zs.getD i 0 := by
        unfold byteAt
        have e : ((zs.take len).map fun n => UInt8.ofNat n.toNat).getD i 0 = UInt8.ofNat (zs.getD i 0).toNat := by
          simp only [List.getD_eq_getElem?_getD, List.getElem?_map, List.getElem?_take, if_pos hi'.2, List.getElem?_eq_getElem hi'.1, Option.map_some, Option.getD_some]
        rw [e, UInt8.toNat_ofNat']
        omega
      rw [h3]
end Go.Proofs.Ytdijlfgmpinidaa.By
/- Arguments opened: slices of bytes, slices of pairs of numbers, messages by value. No program is named here. -/
namespace Go.Proofs.Ytdijlfgmpinidaa.By
open Go.RowKit Go.Deep Go.ChangeShapes Go.WideShapes Go.ChangeAt Go.Joins Go

section
variable {H : Type} {enc : TypeId × Value → H} {P : Program} {w : World} {base : Nat} {spare : Nat → Bool} {held : Bool}

/-- A slice of bytes that is read as such. -/
theorem row_of_trod {t e : TypeId} {fuel : Nat} {v : Value} {x : DataW H × List MemPlace} (ht : P.underlying t = some (.slice e)) (he : P.underlying e = some (.int .u8)) (hc : P.cellsOf e = 1)
    (h : DataW.trod enc P w base (fun _ => true) held fuel t [v] = some x) : ∃ a len cap zs, v = .slice a len cap ∧ Row w a len cap zs := by
  rcases open_ints ht he hc h with ⟨hcs, _⟩ | ⟨a, l, c, zs, hcs, _, hl, hm, hz, _, hcell, hwz⟩
  · simp at hcs
    exact ⟨_, _, _, [], hcs, .inl ⟨rfl, rfl, rfl, rfl⟩⟩
  · simp at hcs
    exact ⟨_, _, _, zs, hcs, .inr ⟨a, rfl, hl, hm, by simpa using hz, hcell, hwz⟩⟩
/-- .. as an argument. -/
theorem open_bytes {r : Reach} {b0 : Nat} {t e : TypeId} {v : Value} {d : DataW H} {p : List MemPlace} (ht : P.underlying t = some (.slice e)) (he : P.underlying e = some (.int .u8)) (hc : P.cellsOf e = 1)
    (hv : Value.okWide P w r b0 t v) (h : DataW.Trod enc P w base (fun _ => true) held t v d p) : ∃ a len cap zs, v = .slice a len cap ∧ Row w a len cap zs := by
  obtain ⟨a, len, cap, rfl⟩ := okWide_slice ht hv
  obtain ⟨fuel, hf⟩ := h
  exact row_of_trod ht he hc (by simpa [Value.cells] using hf)

/-- A slice of pairs of numbers that came in. -/
def Pairs (w : World) (a : Option Addr) (len : Nat) (os ns : Nat → Int) : Prop :=
  0 < len → ∃ b off, a = some ⟨b, off, none⟩ ∧ b < w.heap.size ∧ ∀ i, i < len → w.cell? ⟨b, off + i * 2, none⟩ = some (.int .i64 (os i)) ∧ w.cell? ⟨b, off + i * 2 + 1, none⟩ = some (.int .i64 (ns i))
theorem open_pairs {r : Reach} {b0 : Nat} {t e : TypeId} {f0 f1 : Field} {v : Value} {d : DataW H} {p : List MemPlace} (ht : P.underlying t = some (.slice e)) (he : P.underlying e = some (.struct #[f0, f1]))
    (i0 : P.underlying f0.type = some (.int .i64)) (i1 : P.underlying f1.type = some (.int .i64)) (hone : oneCellFields P #[f0, f1] = true) (hC : P.cellsOf e = 2)
    (hv : Value.okWide P w r b0 t v) (h : DataW.Trod enc P w base (fun _ => true) held t v d p) : ∃ a len cap os ns, v = .slice a len cap ∧ Pairs w a len os ns := by
  obtain ⟨a, len, cap, rfl⟩ := okWide_slice ht hv
  obtain ⟨fuel, hf⟩ := h
  rcases open_slice ht hf with ⟨hcs, _⟩ | ⟨a', len', cap', m, n, D, Pl, hcs, _, hl, _, hm, _, hi⟩
  · simp [Value.cells] at hcs
    obtain ⟨rfl, rfl, rfl⟩ := hcs
    exact ⟨_, _, _, fun _ => 0, fun _ => 0, rfl, fun hp => by omega⟩
  · simp [Value.cells] at hcs
    obtain ⟨rfl, rfl, rfl⟩ := hcs
    simp at hm
    have hel : ∀ i, ∃ o n : Int, i < len → w.cell? (a'.add (i * 2)) = some (.int .i64 o) ∧ w.cell? ((a'.add (i * 2)).add 1) = some (.int .i64 n) := by
      intro i
      by_cases hlt : i < len
      · obtain ⟨cs', hc, ht'⟩ := hi i (by omega)
        rw [hC] at hc
        obtain ⟨_, hlen, hat⟩ := World.cells?_some hc
        obtain ⟨ys, n', _, _, _, hyl, hf'⟩ := DataW.trod_struct he ht'
        have hyl2 : ys.length = 2 := hyl
        obtain ⟨o0, k0⟩ := hone_of hone 0 f0 rfl
        obtain ⟨o1, k1⟩ := hone_of hone 1 f1 rfl
        have g0 := hf' 0 f0 rfl
        have g1 := hf' 1 f1 rfl
        rw [o0, k0] at g0
        rw [o1, k1] at g1
        match cs', hlen with
        | [c0, c1], _ =>
          have a0 := hat 0 (by omega)
          have a1 := hat 1 (by omega)
          simp at a0 a1 g0 g1
          cases hy0 : ys[0]? with
          | none => exfalso; rw [List.getElem?_eq_none_iff] at hy0; omega
          | some y0 =>
            cases hy1 : ys[1]? with
            | none => exfalso; rw [List.getElem?_eq_none_iff] at hy1; omega
            | some y1 =>
              rw [hy0] at g0
              rw [hy1] at g1
              obtain ⟨x0, e0, _⟩ := DataW.trod_int i0 g0
              obtain ⟨x1, e1, _⟩ := DataW.trod_int i1 g1
              simp at e0 e1
              subst e0 e1
              exact ⟨x0, x1, fun _ => ⟨by simpa [Addr.add] using a0, a1⟩⟩
      · exact ⟨0, 0, fun hh => absurd hh hlt⟩
    obtain ⟨os, hos⟩ := Classical.axiomOfChoice hel
    obtain ⟨ns, hns⟩ := Classical.axiomOfChoice hos
    refine ⟨_, _, _, os, ns, rfl, fun hp => ?_⟩
    obtain ⟨b, off, spot⟩ := a'
    have h0 := (hns 0 hp).1
    have hs : spot = none := by simpa [Addr.add] using World.cell?_spot h0
    subst hs
    refine ⟨b, off, rfl, ?_, fun i hlt => ?_⟩
    · rw [add_plain] at h0; exact lt_of_cell h0
    · have := hns i hlt
      rw [add_plain, add_plain] at this
      exact this

/-- A message that came in by value: its type and its body. -/
theorem open_msg {r : Reach} {b0 : Nat} {t e : TypeId} {f0 f1 : Field} {v : Value} {d : DataW H} {p : List MemPlace} (hs : P.underlying t = some (.struct #[f0, f1])) (hone : oneCellFields P #[f0, f1] = true) (hC : P.cellsOf t = 2)
    (i0 : P.underlying f0.type = some (.int .u8)) (i1 : P.underlying f1.type = some (.slice e)) (he : P.underlying e = some (.int .u8)) (hc : P.cellsOf e = 1)
    (hv : Value.okWide P w r b0 t v) (h : DataW.Trod enc P w base (fun _ => true) held t v d p) : ∃ (k : Int) (a : Option Addr) (len cap : Nat) (zs : List Int), v = .agg #[.int .u8 k, .slice a len cap] ∧ (0 ≤ k ∧ k < 256) ∧ Row w a len cap zs := by
  obtain ⟨v0, v1, y0, y1, n, rfl, _, _, h0, h1⟩ := open_agg2 hs hone hC hv h
  obtain ⟨k, e0, _, hw⟩ := DataW.trod_int i0 h0
  obtain ⟨a, len, cap, zs, rfl, hr⟩ := row_of_trod i1 he hc h1
  simp at e0
  exact ⟨k, a, len, cap, zs, by rw [e0], u8_of_wf hw, hr⟩
end
end Go.Proofs.Ytdijlfgmpinidaa.By
namespace Go.Proofs.Ytdijlfgmpinidaa.By
open Go.RowKit Go.Deep Go.ChangeShapes Go.WideShapes Go.ChangeAt Go.Joins Go

/-- A slice's address holds these elements, of k cells each, and lies below block B. -/
def Elems (w : World) (B : Nat) (a : Option Addr) (k : Nat) (es : List (List Value)) : Prop :=
  0 < es.length → ∃ b off, a = some ⟨b, off, none⟩ ∧ b < B ∧ ∀ i, i < es.length → ∀ j u, (es.getD i [])[j]? = some u → w.cell? ⟨b, off + i * k + j, none⟩ = some u
section
variable {w w' : World} {B : Nat} {a : Option Addr} {k : Nat} {es : List (List Value)}
theorem Elems.keep (h : Elems w B a k es) (hk : ∀ p : Addr, p.block < B → w'.cell? p = w.cell? p) : Elems w' B a k es := fun hn => by
  obtain ⟨b, off, e, hb, hc⟩ := h hn
  exact ⟨b, off, e, hb, fun i hi j u hu => (hk _ hb).trans (hc i hi j u hu)⟩
theorem Elems.below (h : Elems w B a k es) (hb : Below B w w') : Elems w' B a k es := h.keep fun _ hp => hb.cell hp
end

section
variable {H : Type} {enc : TypeId × Value → H} {P : Program} {w : World} {base : Nat} {held : Bool}
/-- What is known of an element: each of its cells reads as its field's type does. -/
def Reads (enc : TypeId × Value → H) (P : Program) (w : World) (base : Nat) (held : Bool) (fs : Array Field) (e : List Value) : Prop :=
  e.length = fs.size ∧ ∃ n : Nat, ∀ (j : Nat) (f : Field), fs[j]? = some f → ∃ u y, e[j]? = some u ∧ DataW.trod enc P w base (fun _ => true) held n f.type [u] = some y

/-- An element of k cells, read off memory. -/
theorem reads_of {e : TypeId} {fs : Array Field} {cs : List Value} {n : Nat} {y : DataW H × List MemPlace} (he : P.underlying e = some (.struct fs)) (hone : oneCellFields P fs = true) (hC : P.cellsOf e = fs.size) (h : DataW.trod enc P w base (fun _ => true) held n e cs = some y) : Reads enc P w base held fs cs := by
  obtain ⟨ys, n', _, _, hlen, hyl, hf⟩ := DataW.trod_struct he h
  rw [hC] at hlen
  refine ⟨hlen, n', fun j f hj => ?_⟩
  have hj' : j < fs.size := (Array.getElem?_eq_some_iff.1 hj).1
  obtain ⟨ho, hk⟩ := hone_of hone j f hj
  have g := hf j f hj
  rw [ho, hk, take1_drop cs j undef (by omega)] at g
  have hy : ys[j]? = some (ys[j]'(by omega)) := List.getElem?_eq_getElem (by omega)
  rw [List.getD_eq_getElem?_getD, List.getElem?_eq_getElem (by omega), Option.getD_some] at g
  exact ⟨cs[j]'(by omega), ys[j]'(by omega), List.getElem?_eq_getElem (by omega), g.trans hy⟩

theorem open_elems {t e : TypeId} {fs : Array Field} {fuel : Nat} {v : Value} {x : DataW H × List MemPlace} (ht : P.underlying t = some (.slice e)) (he : P.underlying e = some (.struct fs)) (hone : oneCellFields P fs = true) (hC : P.cellsOf e = fs.size) (hpos : 0 < fs.size)
    (h : DataW.trod enc P w base (fun _ => true) held fuel t [v] = some x) :
    ∃ a len cap es, v = .slice a len cap ∧ es.length = len ∧ Elems w w.heap.size a fs.size es ∧ (a = none → cap = 0) ∧ len ≤ cap ∧ cap ≤ maxLen ∧ ∀ e ∈ es, Reads enc P w base held fs e := by
  rcases open_slice ht h with ⟨hcs, _⟩ | ⟨a, len, cap, m, n, D, Pl, hcs, _, hl, hcm, hm, _, hi⟩
  · simp at hcs
    exact ⟨none, 0, 0, [], hcs, rfl, fun hp => by simp at hp, fun _ => rfl, Nat.le_refl _, by simp [maxLen], fun e he => by cases he⟩
  · simp at hcs
    simp at hm
    have hel : ∀ i, ∃ cs' : List Value, i < len → Reads enc P w base held fs cs' ∧ ∀ j u, cs'[j]? = some u → w.cell? ((a.add (i * fs.size)).add j) = some u := by
      intro i
      by_cases hlt : i < len
      · obtain ⟨cs', hc, ht'⟩ := hi i (by omega)
        rw [hC] at hc
        obtain ⟨_, hlen, hat⟩ := World.cells?_some hc
        refine ⟨cs', fun _ => ⟨reads_of he hone hC ht', fun j u hu => ?_⟩⟩
        have hj : j < fs.size := by rw [← hlen]; exact (List.getElem?_eq_some_iff.1 hu).1
        rw [hat j hj, hu]
      · exact ⟨[], fun hh => absurd hh hlt⟩
    obtain ⟨es, hes⟩ := Classical.axiomOfChoice hel
    refine ⟨some a, len, cap, (List.range len).map es, hcs, by simp, fun hp => ?_, fun hh => by (cases hh), hl, hcm, fun e hme => ?_⟩
    · have hp' : 0 < len := by simpa using hp
      obtain ⟨b, off, spot⟩ := a
      obtain ⟨⟨hl0, _⟩, hc0⟩ := hes 0 hp'
      have h0 := hc0 0 _ (List.getElem?_eq_getElem (by omega))
      have hs : spot = none := by simpa [Addr.add] using World.cell?_spot h0
      subst hs
      refine ⟨b, off, rfl, ?_, fun i hi' j u hu => ?_⟩
      · rw [add_plain, add_plain] at h0; exact lt_of_cell h0
      · have hi2 : i < len := by simpa using hi'
        have e1 : ((List.range len).map es).getD i [] = es i := by
          rw [List.getD_eq_getElem?_getD, List.getElem?_map, List.getElem?_range hi2]; rfl
        rw [e1] at hu
        have := (hes i hi2).2 j u hu
        rw [add_plain, add_plain] at this
        exact this
    · obtain ⟨i, hi', rfl⟩ := List.mem_map.1 hme
      exact (hes i (List.mem_range.1 hi')).1

/-- A struct of one-cell fields by value. -/
theorem open_struct {r : Reach} {b0 : Nat} {t : TypeId} {fs : Array Field} {v : Value} {d : DataW H} {p : List MemPlace} (hs : P.underlying t = some (.struct fs)) (hone : oneCellFields P fs = true) (hC : P.cellsOf t = fs.size)
    (hv : Value.okWide P w r b0 t v) (h : DataW.Trod enc P w base (fun _ => true) held t v d p) : ∃ cs : List Value, v = .agg cs.toArray ∧ Reads enc P w base held fs cs := by
  obtain ⟨cs, rfl, _⟩ := okWide_struct hs hv
  obtain ⟨fuel, hf⟩ := h
  exact ⟨cs.toList, by simp, reads_of hs hone hC (by simpa [Value.cells] using hf)⟩
theorem Reads.at_ {fs : Array Field} {e : List Value} (h : Reads enc P w base held fs e) (j : Nat) (f : Field) (hj : fs[j]? = some f) : ∃ u n y, e[j]? = some u ∧ DataW.trod enc P w base (fun _ => true) held n f.type [u] = some y := by
  obtain ⟨_, n, hf⟩ := h
  obtain ⟨u, y, h1, h2⟩ := hf j f hj
  exact ⟨u, n, y, h1, h2⟩

/-- A field that is a number, a bool, a text. -/
theorem Reads.int {fs : Array Field} {e : List Value} {k : IntKind} (h : Reads enc P w base held fs e) (j : Nat) (f : Field) (hj : fs[j]? = some f) (ht : P.underlying f.type = some (.int k)) : ∃ n, e[j]? = some (.int k n) ∧ (Lit.int k n).wf = true := by
  obtain ⟨u, _, _, hu, hd⟩ := h.at_ j f hj
  obtain ⟨n, e1, _, hw⟩ := DataW.trod_int ht hd
  simp at e1
  exact ⟨n, by rw [hu, e1], hw⟩
theorem Reads.bool {fs : Array Field} {e : List Value} (h : Reads enc P w base held fs e) (j : Nat) (f : Field) (hj : fs[j]? = some f) (ht : P.underlying f.type = some .bool) : ∃ b, e[j]? = some (.bool b) := by
  obtain ⟨u, _, _, hu, hd⟩ := h.at_ j f hj
  obtain ⟨b, e1, _⟩ := DataW.trod_bool ht hd
  simp at e1
  exact ⟨b, by rw [hu, e1]⟩
theorem Reads.string {fs : Array Field} {e : List Value} (h : Reads enc P w base held fs e) (j : Nat) (f : Field) (hj : fs[j]? = some f) (ht : P.underlying f.type = some .string) : ∃ s : ByteArray, e[j]? = some (.string s) ∧ s.size ≤ maxLen := by
  obtain ⟨u, _, _, hu, hd⟩ := h.at_ j f hj
  obtain ⟨s, e1, _, hs⟩ := DataW.trod_string ht hd
  simp at e1
  exact ⟨s, by rw [hu, e1], hs⟩
/-- A field that is a slice of bytes; of numbers; of structs. -/
theorem Reads.bytes {fs : Array Field} {e : List Value} {el : TypeId} (h : Reads enc P w base held fs e) (j : Nat) (f : Field) (hj : fs[j]? = some f) (ht : P.underlying f.type = some (.slice el)) (he : P.underlying el = some (.int .u8)) (hc : P.cellsOf el = 1) :
    ∃ a len cap zs, e[j]? = some (.slice a len cap) ∧ Row w a len cap zs := by
  obtain ⟨u, _, _, hu, hd⟩ := h.at_ j f hj
  obtain ⟨a, len, cap, zs, rfl, hr⟩ := row_of_trod ht he hc hd
  exact ⟨a, len, cap, zs, hu, hr⟩
/-- A slice of numbers that came in. -/
def Ints (w : World) (k : IntKind) (a : Option Addr) (len cap : Nat) (zs : List Int) : Prop :=
  zs.length = len ∧ (a = none → cap = 0) ∧ len ≤ cap ∧ cap ≤ maxLen ∧ (∀ n ∈ zs, (Lit.int k n).wf = true) ∧ (0 < len → ∃ b off, a = some ⟨b, off, none⟩ ∧ b < w.heap.size ∧ ∀ i, i < len → w.cell? ⟨b, off + i, none⟩ = some (.int k (zs.getD i 0)))
theorem ints_of_trod {t e : TypeId} {k : IntKind} {fuel : Nat} {v : Value} {x : DataW H × List MemPlace} (ht : P.underlying t = some (.slice e)) (he : P.underlying e = some (.int k)) (hc : P.cellsOf e = 1)
    (h : DataW.trod enc P w base (fun _ => true) held fuel t [v] = some x) : ∃ a len cap zs, v = .slice a len cap ∧ Ints w k a len cap zs := by
  rcases open_ints ht he hc h with ⟨hcs, _⟩ | ⟨a, l, c, zs, hcs, _, hl, hm, hz, _, hcell, hwz⟩
  · simp at hcs
    exact ⟨_, _, _, [], hcs, rfl, fun _ => rfl, Nat.le_refl _, by simp [maxLen], fun n hn => by (cases hn), fun hp => by omega⟩
  · simp at hcs hz
    refine ⟨_, _, _, zs.take l, hcs, by rw [List.length_take]; omega, fun hh => by (cases hh), hl, hm, fun n hn => hwz n (List.mem_of_mem_take hn), fun hp => ?_⟩
    obtain ⟨b, off, spot⟩ := a
    have h0 := hcell 0 (by omega)
    have hs : spot = none := by simpa [Addr.add] using World.cell?_spot h0
    subst hs
    refine ⟨b, off, rfl, ?_, fun i hi => ?_⟩
    · rw [add_plain] at h0; exact lt_of_cell h0
    · have h1 := hcell i (by omega)
      rw [add_plain] at h1
      rw [h1, List.getD_eq_getElem?_getD, List.getD_eq_getElem?_getD, List.getElem?_take, if_pos hi]
theorem Reads.ints {fs : Array Field} {e : List Value} {el : TypeId} {k : IntKind} (h : Reads enc P w base held fs e) (j : Nat) (f : Field) (hj : fs[j]? = some f) (ht : P.underlying f.type = some (.slice el)) (he : P.underlying el = some (.int k)) (hc : P.cellsOf el = 1) :
    ∃ a len cap zs, e[j]? = some (.slice a len cap) ∧ Ints w k a len cap zs := by
  obtain ⟨u, _, _, hu, hd⟩ := h.at_ j f hj
  obtain ⟨a, len, cap, zs, rfl, hr⟩ := ints_of_trod ht he hc hd
  exact ⟨a, len, cap, zs, hu, hr⟩
theorem Reads.elems {fs gs : Array Field} {e : List Value} {el : TypeId} (h : Reads enc P w base held fs e) (j : Nat) (f : Field) (hj : fs[j]? = some f) (ht : P.underlying f.type = some (.slice el)) (he : P.underlying el = some (.struct gs)) (hone : oneCellFields P gs = true) (hC : P.cellsOf el = gs.size) (hpos : 0 < gs.size) :
    ∃ a len cap es, e[j]? = some (.slice a len cap) ∧ es.length = len ∧ Elems w w.heap.size a gs.size es ∧ (a = none → cap = 0) ∧ len ≤ cap ∧ cap ≤ maxLen ∧ ∀ e ∈ es, Reads enc P w base held gs e := by
  obtain ⟨u, _, _, hu, hd⟩ := h.at_ j f hj
  obtain ⟨a, len, cap, es, rfl, hr⟩ := open_elems ht he hone hC hpos hd
  exact ⟨a, len, cap, es, hu, hr⟩

/-- Elements that are two texts each. -/
theorem texts_of {fs : Array Field} {f0 f1 : Field} {es : List (List Value)} (h0 : fs[0]? = some f0) (h1 : fs[1]? = some f1) (hz : fs.size = 2) (t0 : P.underlying f0.type = some .string) (t1 : P.underlying f1.type = some .string) (h : ∀ e ∈ es, Reads enc P w base held fs e) :
    ∃ ps : List (ByteArray × ByteArray), es = ps.map (fun p => [.string p.1, .string p.2]) ∧ ∀ p ∈ ps, p.1.size ≤ maxLen ∧ p.2.size ≤ maxLen := by
  induction es with
  | nil => exact ⟨[], rfl, fun p hp => by cases hp⟩
  | cons e es ih =>
    obtain ⟨ps, rfl, hps⟩ := ih fun e' he' => h e' (List.mem_cons_of_mem _ he')
    have hr := h e (List.mem_cons_self ..)
    obtain ⟨s0, e0, z0⟩ := hr.string 0 f0 h0 t0
    obtain ⟨s1, e1, z1⟩ := hr.string 1 f1 h1 t1
    have hl : e.length = 2 := hr.1.trans hz
    refine ⟨(s0, s1) :: ps, ?_, fun p hp => ?_⟩
    · match e, hl with
      | [x, y], _ =>
        simp at e0 e1
        subst e0 e1
        rfl
    · rcases List.mem_cons.1 hp with rfl | hp
      · exact ⟨z0, z1⟩
      · exact hps p hp

/-- As arguments: a slice of numbers, a slice of structs. -/
theorem open_ints_arg {r : Reach} {b0 : Nat} {t e : TypeId} {k : IntKind} {v : Value} {d : DataW H} {p : List MemPlace} (ht : P.underlying t = some (.slice e)) (he : P.underlying e = some (.int k)) (hc : P.cellsOf e = 1)
    (hv : Value.okWide P w r b0 t v) (h : DataW.Trod enc P w base (fun _ => true) held t v d p) : ∃ a len cap zs, v = .slice a len cap ∧ Ints w k a len cap zs := by
  obtain ⟨a, len, cap, rfl⟩ := okWide_slice ht hv
  obtain ⟨fuel, hf⟩ := h
  exact ints_of_trod ht he hc (by simpa [Value.cells] using hf)
/-- What is known of a slice of structs. -/
def ElemsOf (enc : TypeId × Value → H) (P : Program) (w : World) (base : Nat) (held : Bool) (fs : Array Field) (a : Option Addr) (len cap : Nat) (es : List (List Value)) : Prop :=
  es.length = len ∧ Elems w w.heap.size a fs.size es ∧ (a = none → cap = 0) ∧ len ≤ cap ∧ cap ≤ maxLen ∧ ∀ e ∈ es, Reads enc P w base held fs e
theorem open_elems_arg {r : Reach} {b0 : Nat} {t e : TypeId} {fs : Array Field} {v : Value} {d : DataW H} {p : List MemPlace} (ht : P.underlying t = some (.slice e)) (he : P.underlying e = some (.struct fs)) (hone : oneCellFields P fs = true) (hC : P.cellsOf e = fs.size) (hpos : 0 < fs.size)
    (hv : Value.okWide P w r b0 t v) (h : DataW.Trod enc P w base (fun _ => true) held t v d p) : ∃ a len cap es, v = .slice a len cap ∧ ElemsOf enc P w base held fs a len cap es := by
  obtain ⟨a, len, cap, rfl⟩ := okWide_slice ht hv
  obtain ⟨fuel, hf⟩ := h
  exact open_elems ht he hone hC hpos (by simpa [Value.cells] using hf)
end
end Go.Proofs.Ytdijlfgmpinidaa.By
