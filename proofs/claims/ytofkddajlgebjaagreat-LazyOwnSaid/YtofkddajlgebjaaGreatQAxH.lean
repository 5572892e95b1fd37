/- append, as a whole. No program is named here. -/
import Derived.Test.YtofkddajlgebjaaGreatQAxSb
import Derived.RangeFuncOwn
import Derived.Laws.Tables
/- Values without memory ('abstract values'), what it means that a value of the model is one of them, and how that is kept while memory grows. No program is named here. -/
namespace Go.Proofs.YtofkddajlgebjaaGreat.Ax
open Go.RowKit Go

/-- Who owns the room behind a slice: a slot of the frame, an argument, a cell of a box, what is answered. -/
inductive Id where
  | slot (n : Nat)
  | arg (n : Nat)
  | cell (i off : Nat)
  | res
  /-- A slot, whose slice lies in a block that was made since the function began. -/
  | new (n : Nat)
  deriving DecidableEq
def Id.isNew : Id → Bool
  | .new _ => true
  | _ => false

/-- What is known of the room behind a slice: nothing; there is none; it is one owner's. -/
inductive Room where
  | no
  | exact
  | own (c : Id)

inductive AV where
  | v (x : Value)
  | any
  | box (i off : Nat)
  | ro (cs : List AV)
  | sl (k : Nat) (es : List (List AV)) (nul : Option Bool) (room : Room)
  | fn (f : Fn) (first cap : List AV)
  | agg (cs : List AV)
  | tup (vs : List AV)
  | bsl (i off k n : Nat)
  /-- What a loop over a function hands to that function: the loop's variable, what it is, what its frame's slots hold. -/
  | yld (i : Nat) (r : Loop) (c : Code) (slots : List AV)
  /-- A map: the variable's number; how many cells an element has, whether it is no row of cells. -/
  | mp (i n : Nat) (one : Bool)
  /-- What stands in a loop over a map: its variable's number, the map's (none: a map that is nil). -/
  | itr (i : Nat) (im : Option Nat) (n : Nat) (one : Bool)
  /-- What an interface holds: its type, what it is. -/
  | ifc (t : TypeId) (a : AV)

instance : Inhabited AV := ⟨.any⟩

/-- A growing block: the cells that it has so far, and its size. -/
structure Buf where
  cells : List Value
  size : Nat

/-- A variable of another kind than cells: what a loop over a function stands at (and where it leaves to, if it does); a map, whose elements have n cells. -/
inductive Kind where
  | loop (r : Loop) (c : Code)
  | map (n : Nat) (one : Bool)
  | iter (mb : Option Nat)
/-- A number that is not below 0. -/
def natOf : Value → Nat
  | .int _ n => n.toNat
  | _ => 0
/-- A map's entries: each is its key, when it came, its element's cells. -/
def mapEnts (n : Nat) (one : Bool) : Nat → List Value → List MapEntry
  | m + 1, k :: .int _ b :: r => { key := k, val := if one = true then r.headD undef else .agg (r.take n).toArray, born := b.toNat } :: mapEnts n one m (r.drop n)
  | _, _ => []
/-- What lies there: its first part is the kind's mark. -/
def Kind.obj : Kind → List Value → Obj
  | .loop r _, [_, .bool false, .bool false] => .loop { r with state := .ready, pending := none }
  | .loop r c, [_, .bool false, .bool true] => .loop { r with state := .done, pending := some c }
  | .loop r _, _ => .loop { r with state := .busy, pending := none }
  | .map n one, _ :: .int _ t :: r => .map (mapEnts n one r.length r).toArray t.toNat
  | .map _ _, _ => .map #[] 0
  | .iter mb, _ :: .int _ s :: .int _ t :: r => .mapIter mb s.toNat (r.map natOf).toArray t.toNat
  | .iter mb, _ => .mapIter mb 0 #[] 0
theorem Kind.noCells (κ : Kind) (vs : List Value) : (κ.obj vs).isCells = false := by
  cases κ with
  | loop _ _ => unfold Kind.obj; split <;> first | rfl | (rename_i h; cases h)
  | map _ _ => unfold Kind.obj; split <;> first | rfl | (rename_i h; cases h)
  | iter _ => unfold Kind.obj; split <;> first | rfl | (rename_i h; cases h)
theorem Kind.notDeferred (κ : Kind) (vs : List Value) (ds : Option (List Deferred)) : Obj.deferred ds ≠ κ.obj vs := by
  cases κ with
  | loop _ _ => unfold Kind.obj; split <;> (intro h; cases h)
  | map _ _ => unfold Kind.obj; split <;> (intro h; cases h)
  | iter _ => unfold Kind.obj; split <;> (intro h; cases h)
/-- What is known of memory: the world at first; blocks that grow; blocks that are variables, and what they hold. -/
structure Ghost where
  w0 : World
  bufs : Nat → Option Buf
  boxes : List Nat
  boxv : List (List Value)
  /-- What lies that holds no cells: loops over functions, and what their functions are to do at their end. -/
  objs : Nat → Option Obj := fun _ => none
  /-- Which variables are of another kind; how many cells there are for a variable that may grow. -/
  kr : Nat → Option Kind × Nat := fun _ => (none, 0)
  /-- Where in its block a variable begins. -/
  base : Nat → Nat := fun _ => 0
abbrev Ghost.kinds (G : Ghost) (b : Nat) : Option Kind := (G.kr b).1
abbrev Ghost.room (G : Ghost) (b : Nat) : Nat := (G.kr b).2

def Ghost.cell (G : Ghost) (b o : Nat) : Option Value :=
  if b < G.w0.heap.size then G.w0.cell? ⟨b, o, none⟩ else (G.bufs b).bind fun B => B.cells[o]?

/-- Which map a loop goes through. -/
def ItrOk (G : Ghost) (mb : Option Nat) (n : Nat) (one : Bool) : Option Nat → Prop
  | none => mb = none
  | some i => ∃ b, mb = some b ∧ G.boxes[i]? = some b ∧ G.kinds b = some (.map n one)

def NulOk (nul : Option Bool) (a : Option Addr) (len cap : Nat) : Prop :=
  (a = none → cap = 0 ∧ len = 0) ∧ (nul = some true → a = none) ∧ (nul = some false → a ≠ none)

inductive Sees (G : Ghost) : AV → Value → Prop
  | v (x : Value) : Sees G (.v x) x
  | any (x : Value) : Sees G .any x
  | box (i off b : Nat) (h : G.boxes[i]? = some b ∧ G.kinds b = none) : Sees G (.box i off) (.pointer (some ⟨b, G.base i + off, none⟩))
  | ro (cs : List AV) (b o : Nat) (u : Nat → Value) (hc : ∀ j, j < cs.length → G.cell b (o + j) = some (u j)) (hs : ∀ j c, cs[j]? = some c → Sees G c (u j)) (h1 : ∀ j, j < cs.length → (u j).oneCell' = true) : Sees G (.ro cs) (.pointer (some ⟨b, o, none⟩))
  | sl (k : Nat) (es : List (List AV)) (nul : Option Bool) (room : Room) (a : Option Addr) (len cap : Nat) (u : Nat → Nat → Value) (hlen : len = es.length)
      (hn : NulOk nul a len cap) (hk : ∀ e, e ∈ es → e.length = k) (hcap : len ≤ cap) (hm : cap ≤ maxLen) (hr : room = .exact → cap = len)
      (hc : 0 < es.length → ∃ b o, a = some ⟨b, o, none⟩ ∧ ∀ i j, i < es.length → j < k → G.cell b (o + i * k + j) = some (u i j))
      (hs : ∀ i e, es[i]? = some e → ∀ j c, e[j]? = some c → Sees G c (u i j)) (h1 : ∀ i j, i < es.length → j < k → (u i j).oneCell' = true) : Sees G (.sl k es nul room) (.slice a len cap)
  | fn (f : Fn) (first cap : List AV) (us vs : List Value) (h1 : us.length = first.length) (h2 : vs.length = cap.length)
      (hs1 : ∀ j c, first[j]? = some c → Sees G c (us.getD j undef)) (hs2 : ∀ j c, cap[j]? = some c → Sees G c (vs.getD j undef)) : Sees G (.fn f first cap) (.func f us.toArray vs.toArray)
  | agg (cs : List AV) (us : List Value) (hl : us.length = cs.length) (hs : ∀ j c, cs[j]? = some c → Sees G c (us.getD j undef)) (h1 : ∀ x, x ∈ us → x.oneCell' = true) : Sees G (.agg cs) (.agg us.toArray)
  | tup (cs : List AV) (us : List Value) (hl : us.length = cs.length) (hs : ∀ j c, cs[j]? = some c → Sees G c (us.getD j undef)) : Sees G (.tup cs) (.tuple us.toArray)
  | bsl (i off k n b cap : Nat) (h : G.boxes[i]? = some b ∧ G.kinds b = none) (hcap : n ≤ cap) (hm : cap ≤ maxLen ∧ G.base i + off + cap * k ≤ G.room b) (o : Nat) (ho : cap = 0 ∨ o = G.base i + off) : Sees G (.bsl i off k n) (.slice (some ⟨b, o, none⟩) n cap)
  | mp (i b n : Nat) (one : Bool) (h : G.boxes[i]? = some b) (hk : G.kinds b = some (.map n one)) : Sees G (.mp i n one) (.map (some b))
  | itr (i b n : Nat) (one : Bool) (im mb : Option Nat) (h : G.boxes[i]? = some b) (hk : G.kinds b = some (.iter mb)) (hm : ItrOk G mb n one im) : Sees G (.itr i im n one) (.pointer (some ⟨b, 0, none⟩))
  | ifc (t : TypeId) (a : AV) (x : Value) (h : Sees G a x) : Sees G (.ifc t a) (.iface t x)
  | yld (i b : Nat) (r : Loop) (c : Code) (slots : List AV) (h : G.boxes[i]? = some b) (hk : G.kinds b = some (.loop r c)) (hl : r.tmps.size = slots.length) (hs : ∀ j x, slots[j]? = some x → Sees G x (r.tmps.toList.getD j undef)) : Sees G (.yld i r c slots) (.func (.yield b) #[] #[])

/-- Memory that has grown: what was in growing blocks is there, variables are where they were (what they hold may have changed). -/
structure Ext (G G' : Ghost) : Prop where
  w0 : G'.w0 = G.w0
  bufs : ∀ b B, G.bufs b = some B → ∃ more, G'.bufs b = some ⟨B.cells ++ more, B.size⟩
  boxes : ∃ more, G'.boxes = G.boxes ++ more
  objs : (∀ b o, G.objs b = some o → G'.objs b = some o) ∧ ∀ (i b : Nat), G.boxes[i]? = some b → G'.kr b = G.kr b ∧ G'.base i = G.base i
theorem Ext.kindsE {G G' : Ghost} (h : Ext G G') {i b : Nat} (hb : G.boxes[i]? = some b) : G'.kinds b = G.kinds b := congrArg Prod.fst (h.objs.2 i b hb).1
theorem Ext.roomE {G G' : Ghost} (h : Ext G G') {i b : Nat} (hb : G.boxes[i]? = some b) : G'.room b = G.room b := congrArg Prod.snd (h.objs.2 i b hb).1
theorem Ext.baseE {G G' : Ghost} (h : Ext G G') {i b : Nat} (hb : G.boxes[i]? = some b) : G'.base i = G.base i := (h.objs.2 i b hb).2
theorem Ext.refl (G : Ghost) : Ext G G := ⟨rfl, fun b B h => ⟨[], by rw [h, List.append_nil]⟩, ⟨[], by rw [List.append_nil]⟩, fun _ _ h => h, fun _ _ _ => ⟨rfl, rfl⟩⟩
theorem Ext.box_at {G G' : Ghost} (h : Ext G G') {i b : Nat} (hb : G.boxes[i]? = some b) : G'.boxes[i]? = some b := by
  obtain ⟨m, hm⟩ := h.boxes
  rw [hm, List.getElem?_append_left (List.getElem?_eq_some_iff.1 hb).1, hb]
theorem Ext.box_at2 {G G' : Ghost} (h : Ext G G') {i b : Nat} (hb : G.boxes[i]? = some b ∧ G.kinds b = none) : G'.boxes[i]? = some b ∧ G'.kinds b = none := ⟨h.box_at hb.1, (h.kindsE hb.1).trans hb.2⟩
theorem ItrOk.ext {G G' : Ghost} (h : Ext G G') {mb im : Option Nat} {n : Nat} {one : Bool} (hm : ItrOk G mb n one im) : ItrOk G' mb n one im := by
  cases im with
  | none => exact hm
  | some i => obtain ⟨b, h1, h2, h3⟩ := hm; exact ⟨b, h1, h.box_at h2, (h.kindsE h2).trans h3⟩
theorem Ext.trans {G G' G2 : Ghost} (h : Ext G G') (k : Ext G' G2) : Ext G G2 := by
  refine ⟨k.w0.trans h.w0, fun b B hb => ?_, ?_, ⟨fun b o ho => k.objs.1 b o (h.objs.1 b o ho), fun i b hb => ⟨(k.objs.2 i b (h.box_at hb)).1.trans (h.objs.2 i b hb).1, (k.objs.2 i b (h.box_at hb)).2.trans (h.objs.2 i b hb).2⟩⟩⟩
  · obtain ⟨m, hm⟩ := h.bufs b B hb
    obtain ⟨m', hm'⟩ := k.bufs b _ hm
    exact ⟨m ++ m', by rw [hm']; simp⟩
  · obtain ⟨m, hm⟩ := h.boxes
    obtain ⟨m', hm'⟩ := k.boxes
    exact ⟨m ++ m', by rw [hm', hm, List.append_assoc]⟩
theorem Ext.cell {G G' : Ghost} (h : Ext G G') {b o : Nat} {x : Value} (hc : G.cell b o = some x) : G'.cell b o = some x := by
  unfold Ghost.cell at *
  rw [h.w0]
  split
  · rename_i hb; rw [if_pos hb] at hc; exact hc
  · rename_i hb
    rw [if_neg hb] at hc
    cases hB : G.bufs b with
    | none => rw [hB] at hc; cases hc
    | some B =>
      rw [hB] at hc
      obtain ⟨m, hm⟩ := h.bufs b B hB
      rw [hm]
      have hc' : B.cells[o]? = some x := hc
      have hlt : o < B.cells.length := (List.getElem?_eq_some_iff.1 hc').1
      show (B.cells ++ m)[o]? = some x
      rw [List.getElem?_append_left hlt, hc']
theorem Sees.ext {G G' : Ghost} (h : Ext G G') {a : AV} {x : Value} (hs : Sees G a x) : Sees G' a x := by
  induction hs with
  | v x => exact .v x
  | any x => exact .any x
  | box i off b hb => rw [← h.baseE hb.1]; exact .box i off b (h.box_at2 hb)
  | ro cs b o u hc hs h1 ih => exact .ro cs b o u (fun j hj => h.cell (hc j hj)) ih h1
  | sl k es nul room a len cap u hlen hn hk hcap hm hr hc hs h1 ih =>
    refine .sl k es nul room a len cap u hlen hn hk hcap hm hr (fun hp => ?_) ih h1
    obtain ⟨b, o, e, he⟩ := hc hp
    exact ⟨b, o, e, fun i j hi hj => h.cell (he i j hi hj)⟩
  | fn f first cap us vs h1 h2 hs1 hs2 ih1 ih2 => exact .fn f first cap us vs h1 h2 ih1 ih2
  | agg cs us hl hs h1 ih => exact .agg cs us hl ih h1
  | tup cs us hl hs ih => exact .tup cs us hl ih
  | bsl i off k n b cap hb hcap hm o ho => exact .bsl i off k n b cap (h.box_at2 hb) hcap ⟨hm.1, by rw [h.roomE hb.1, h.baseE hb.1]; exact hm.2⟩ o (by rw [h.baseE hb.1]; exact ho)
  | yld i b r c slots hb hk hl hs ih => exact .yld i b r c slots (h.box_at hb) ((h.kindsE hb).trans hk) hl ih
  | mp i b n one hb hk => exact .mp i b n one (h.box_at hb) ((h.kindsE hb).trans hk)
  | itr i b n one im mb hb hk hm => exact .itr i b n one im mb (h.box_at hb) ((h.kindsE hb).trans hk) (hm.ext h)
  | ifc t a x hs ih => exact .ifc t a x ih

/-- What is no cells lies as it lay, cells stay there and are not put fast. -/
structure Keeps (w w' : World) : Prop extends KeepsOthers w w' where
  room : ∀ b j, (w.cell? ⟨b, j, none⟩).isSome = true ∧ w.frozen? ⟨b, j, none⟩ = false → (w'.cell? ⟨b, j, none⟩).isSome = true ∧ w'.frozen? ⟨b, j, none⟩ = false
theorem Keeps.refl (w : World) : Keeps w w := ⟨KeepsOthers.refl w, fun _ _ h => h⟩
theorem Keeps.trans {w w' w2 : World} (h : Keeps w w') (k : Keeps w' w2) : Keeps w w2 := ⟨h.toKeepsOthers.trans k.toKeepsOthers, fun b j hh => k.room b j (h.room b j hh)⟩
theorem cell_lt {w : World} {b j : Nat} (h : (w.cell? ⟨b, j, none⟩).isSome = true) : b < w.heap.size := by
  cases hc : w.cell? ⟨b, j, none⟩ with
  | none => rw [hc] at h; cases h
  | some x =>
    obtain ⟨o, ho, _⟩ := cells_of_cell hc
    exact (Array.getElem?_eq_some_iff.1 ho).1
theorem no_cell {w : World} {b j : Nat} {o : Obj} (ho : w.heap[b]? = some o) (hn : o.isCells = false) (h : (w.cell? ⟨b, j, none⟩).isSome = true) : False := by
  cases hc : w.cell? ⟨b, j, none⟩ with
  | none => rw [hc] at h; cases h
  | some x =>
    obtain ⟨o', q, q2⟩ := cells_of_cell hc
    have q : w.heap[b]? = some o' := q
    rw [ho] at q; injection q with q; subst q; rw [hn] at q2; cases q2
theorem Keeps.of_same {w w' : World} (h : KeepsOthers w w') (hs : ∀ k, k < w.heap.size → w'.heap[k]? = w.heap[k]?) : Keeps w w' := ⟨h, fun b j hh => by
  have := hs b (cell_lt hh.1)
  rw [World.cell?_of_block (a := ⟨b, j, none⟩) this, World.frozen?_of_block (a := ⟨b, j, none⟩) this]; exact hh⟩
theorem Keeps.alloc (w : World) (o : Obj) : Keeps w (w.alloc o) := .of_same (KeepsOthers.alloc w o) fun _ hb => heap_alloc_old w o hb
theorem Keeps.setCell (w : World) (b o : Nat) (v : Value) : Keeps w (w.setCell ⟨b, o, none⟩ v) := ⟨KeepsOthers.setCell w _ v, fun b' j hh => by
  rw [World.frozen?_setCell]
  refine ⟨?_, hh.2⟩
  by_cases e : (⟨b, o, none⟩ : Addr) = ⟨b', j, none⟩
  · rw [← e] at hh ⊢
    rw [World.cell?_setCell_same' w _ v hh.1]; rfl
  · rw [World.cell?_setCell_other (h := e)]; exact hh.1⟩
/-- What holds no cells lies there. -/
structure ObjsOk (G : Ghost) (w : World) : Prop where
  obj : ∀ (b : Nat) (o : Obj), G.objs b = some o → w.heap[b]? = some o ∧ o.isCells = false ∧ ∀ (κ : Kind) (vs : List Value), o ≠ κ.obj vs
  kbox : ∀ (i b : Nat) (vs : List Value) (κ : Kind), G.boxes[i]? = some b → G.boxv[i]? = some vs → G.kinds b = some κ → w.heap[b]? = some (κ.obj vs) ∧ vs.head? = some (.chan none)
  kind : ∀ b, G.kinds b ≠ none → b < w.heap.size
  room : ∀ b j, j < G.room b → (w.cell? ⟨b, j, none⟩).isSome = true ∧ w.frozen? ⟨b, j, none⟩ = false
theorem ObjsOk.keep {G : Ghost} {w w' : World} (h : ObjsOk G w) (hk : Keeps w w') : ObjsOk G w' :=
  ⟨fun b o ho => ⟨hk.same b o (h.obj b o ho).1 (h.obj b o ho).2.1, (h.obj b o ho).2⟩, fun i b vs κ h1 h2 h3 => ⟨hk.same b _ (h.kbox i b vs κ h1 h2 h3).1 (κ.noCells vs), (h.kbox i b vs κ h1 h2 h3).2⟩, fun b hb => Nat.lt_of_lt_of_le (h.kind b hb) hk.size, fun b j hj => hk.room b j (h.room b j hj)⟩
theorem ObjsOk.none_ge {G : Ghost} {w : World} (h : ObjsOk G w) {b : Nat} (hb : w.heap.size ≤ b) : G.kinds b = none := by
  cases hk : G.kinds b with
  | none => rfl
  | some κ => have := h.kind b (by rw [hk]; simp); omega
theorem ObjsOk.new_none {G : Ghost} {w : World} (h : ObjsOk G w) : G.kinds w.heap.size = none := by
  cases hk : G.kinds w.heap.size with
  | none => rfl
  | some κ => have := h.kind _ (by rw [hk]; simp); omega
/-- Two numbers of one block: only where one of them holds no cells. -/
def LiveB (bs : List Nat) (vs : List (List Value)) : Prop := ∀ (i j b : Nat), bs[i]? = some b → bs[j]? = some b → i ≠ j → vs[i]? = some [] ∨ vs[j]? = some []
theorem LiveB.snoc {bs : List Nat} {vs : List (List Value)} (h : LiveB bs vs) (hl : vs.length = bs.length) {b : Nat} (hb : ∀ i : Nat, bs[i]? ≠ some b) (v : List Value) : LiveB (bs ++ [b]) (vs ++ [v]) := fun i j x hi hj hij => by
  have key : ∀ (i : Nat), (bs ++ [b])[i]? = some x → (i < bs.length ∧ bs[i]? = some x) ∨ (i = bs.length ∧ x = b) := fun i hi => by
    by_cases hl2 : i < bs.length
    · rw [List.getElem?_append_left hl2] at hi; exact .inl ⟨hl2, hi⟩
    · have : i = bs.length := by
        have := (List.getElem?_eq_some_iff.1 hi).1
        simp at this; omega
      subst this
      simp at hi
      exact .inr ⟨rfl, hi.symm⟩
  rcases key i hi with ⟨h1, h2⟩ | ⟨h1, h2⟩ <;> rcases key j hj with ⟨h3, h4⟩ | ⟨h3, h4⟩
  · rw [List.getElem?_append_left (by omega), List.getElem?_append_left (by omega)]
    exact h i j x h2 h4 hij
  · subst h4; exact absurd h2 (hb i)
  · subst h2; exact absurd h4 (hb j)
  · omega
theorem LiveB.set {bs : List Nat} {vs : List (List Value)} (h : LiveB bs vs) {i : Nat} {us : List Value} (hi : vs[i]? = some us) (hne : us ≠ []) (us' : List Value) : LiveB bs (vs.set i us') := fun p q x hp hq hpq => by
  rcases h p q x hp hq hpq with h1 | h1
  · have : i ≠ p := fun e => by subst e; rw [hi] at h1; injection h1 with h1; exact hne h1
    left; rw [List.getElem?_set_ne this]; exact h1
  · have : i ≠ q := fun e => by subst e; rw [hi] at h1; injection h1 with h1; exact hne h1
    right; rw [List.getElem?_set_ne this]; exact h1
theorem LiveB.kill {bs : List Nat} {vs : List (List Value)} (h : LiveB bs vs) (i : Nat) : LiveB bs (vs.set i []) := fun p q x hp hq hpq => by
  have key : ∀ p : Nat, vs[p]? = some [] → (vs.set i [])[p]? = some [] := fun p hp => by
    rw [List.getElem?_set]
    split
    · rename_i e; subst e
      rw [if_pos (List.getElem?_eq_some_iff.1 hp).1]
    · exact hp
  rcases h p q x hp hq hpq with h1 | h1
  · exact .inl (key p h1)
  · exact .inr (key q h1)
theorem LiveB.take {bs : List Nat} {vs : List (List Value)} (h : LiveB bs vs) (n : Nat) : LiveB (bs.take n) (vs.take n) := fun p q x hp hq hpq => by
  rw [List.getElem?_take] at hp hq
  split at hp
  · rename_i l1
    split at hq
    · rename_i l2
      rw [List.getElem?_take, if_pos l1, List.getElem?_take, if_pos l2]
      exact h p q x hp hq hpq
    · cases hq
  · cases hp
theorem LiveB.other {bs : List Nat} {vs : List (List Value)} (h : LiveB bs vs) {i j b : Nat} (hi : bs[i]? = some b) (hj : bs[j]? = some b) (hij : i ≠ j) {us : List Value} (hu : vs[i]? = some us) (hne : us ≠ []) : vs[j]? = some [] := by
  rcases h i j b hi hj hij with h1 | h1
  · rw [hu] at h1; injection h1 with h1; exact absurd h1 hne
  · exact h1
/-- Memory is as is known. -/
structure WorldOk (G : Ghost) (w : World) : Prop where
  below : Below G.w0.heap.size G.w0 w
  buf : ∀ (b : Nat) (B : Buf), G.bufs b = some B → G.w0.heap.size ≤ b ∧ b < w.heap.size ∧ B.cells.length ≤ B.size ∧ (∀ j, j < B.size → (w.cell? ⟨b, j, none⟩).isSome = true ∧ w.frozen? ⟨b, j, none⟩ = false) ∧ ∀ j x, B.cells[j]? = some x → w.cell? ⟨b, j, none⟩ = some x
  box : ∀ (i b : Nat) (vs : List Value), G.boxes[i]? = some b → G.boxv[i]? = some vs → G.w0.heap.size ≤ b ∧ b < w.heap.size ∧ (vs ≠ [] → G.bufs b = none) ∧ ∀ j x, vs[j]? = some x → G.kinds b = none → w.cell? ⟨b, G.base i + j, none⟩ = some x ∧ w.frozen? ⟨b, G.base i + j, none⟩ = false
  nodup2 : LiveB G.boxes G.boxv ∧ Dom G.w0
  len : G.boxv.length = G.boxes.length
  obj : ObjsOk G w
theorem WorldOk.nodup {G : Ghost} {w : World} (h : WorldOk G w) : LiveB G.boxes G.boxv := h.nodup2.1
theorem WorldOk.dom {G : Ghost} {w : World} (h : WorldOk G w) : Dom G.w0 := h.nodup2.2
theorem ObjsOk.congr {G G' : Ghost} {w : World} (h : ObjsOk G w) (e : G'.objs = G.objs ∧ G'.kr = G.kr ∧ G'.boxes = G.boxes ∧ G'.boxv = G.boxv) : ObjsOk G' w := by
  obtain ⟨e1, e2, e3, e4⟩ := e
  refine ⟨?_, ?_, ?_, ?_⟩
  · rw [e1]; exact h.obj
  · unfold Ghost.kinds; rw [e2, e3, e4]; exact h.kbox
  · unfold Ghost.kinds; rw [e2]; exact h.kind
  · unfold Ghost.room; rw [e2]; exact h.room
theorem WorldOk.objK {G G' : Ghost} {w w' : World} (h : WorldOk G w) (hk : Keeps w w') (e : G'.objs = G.objs ∧ G'.kr = G.kr ∧ G'.boxes = G.boxes ∧ G'.boxv = G.boxv := by exact ⟨rfl, rfl, rfl, rfl⟩) : ObjsOk G' w' := (h.obj.keep hk).congr e
theorem keepsO_below {w w' : World} (h : Below w.heap.size w w') : Keeps w w' := .of_same ⟨h.size, fun k _ hk _ => (h.block k (Array.getElem?_eq_some_iff.1 hk).1).trans hk⟩ fun k hk => h.block k hk
theorem keepsO_setCells : ∀ (l : List Value) (b o : Nat) (w : World), Keeps w (w.setCells b o l)
  | [], _, _, w => Keeps.refl w
  | u :: l, b, o, w => (Keeps.setCell w b o u).trans (keepsO_setCells l b (o + 1) _)
theorem WorldOk.cell {G : Ghost} {w : World} (h : WorldOk G w) {b o : Nat} {x : Value} (hc : G.cell b o = some x) : w.cell? ⟨b, o, none⟩ = some x := by
  unfold Ghost.cell at hc
  split at hc
  · rename_i hb
    rw [h.below.cell (p := ⟨b, o, none⟩) hb, hc]
  · cases hB : G.bufs b with
    | none => rw [hB] at hc; cases hc
    | some B =>
      rw [hB] at hc
      exact (h.buf b B hB).2.2.2.2 o x hc
theorem WorldOk.drew {G : Ghost} {w : World} (h : WorldOk G w) : WorldOk G w.drew := ⟨h.below.drew, h.buf, h.box, h.nodup2, h.len, ⟨h.obj.obj, h.obj.kbox, h.obj.kind, h.obj.room⟩⟩
theorem WorldOk.size {G : Ghost} {w : World} (h : WorldOk G w) : G.w0.heap.size ≤ w.heap.size := h.below.size

/-- What the variables hold. -/
def SeesH (G : Ghost) (h : List (List AV)) : Prop :=
  h.length = G.boxv.length ∧ ∀ (i : Nat) (cs : List AV) (vs : List Value), h[i]? = some cs → G.boxv[i]? = some vs → vs.length = cs.length ∧ (∀ x ∈ vs, x.oneCell' = true) ∧ ∀ j c, cs[j]? = some c → Sees G c (vs.getD j undef)

/-- Who owns the room behind a slice, if anybody does. -/
def AV.idOf : AV → Option Id
  | .sl _ _ _ (.own c) => some c
  | _ => none
def AV.unown : AV → AV
  | .sl k es nul (.own _) => .sl k es nul .no
  | a => a
def AV.relabel (c : Id) : AV → AV
  | .sl k es nul (.own _) => .sl k es nul (.own c)
  | a => a
theorem Sees.unown {G : Ghost} {a : AV} {x : Value} (h : Sees G a x) : Sees G a.unown x := by
  cases h with
  | sl k es nul room a len cap u hlen hn hk hcap hm hr hc hs h1 =>
    cases room with
    | own c => exact .sl k es nul .no a len cap u hlen hn hk hcap hm (fun h => by cases h) hc hs h1
    | no => exact .sl k es nul .no a len cap u hlen hn hk hcap hm hr hc hs h1
    | exact => exact .sl k es nul .exact a len cap u hlen hn hk hcap hm hr hc hs h1
  | v x => exact .v x
  | any x => exact .any x
  | box i off b h => exact .box i off b h
  | ro cs b o u hc hs h1 => exact .ro cs b o u hc hs h1
  | fn f first cap us vs h1 h2 hs1 hs2 => exact .fn f first cap us vs h1 h2 hs1 hs2
  | agg cs us hl hs h1 => exact .agg cs us hl hs h1
  | tup cs us hl hs => exact .tup cs us hl hs
  | bsl i off k n b cap hb hcap hm o ho => exact .bsl i off k n b cap hb hcap hm o ho
  | yld i b r c slots hb hk hl hs => exact .yld i b r c slots hb hk hl hs
  | mp i b n one hb hk => exact .mp i b n one hb hk
  | itr i b n one im mb hb hk hm => exact .itr i b n one im mb hb hk hm
  | ifc t a x h => exact .ifc t a x h
theorem Sees.relabel {G : Ghost} {a : AV} {x : Value} (c : Id) (h : Sees G a x) : Sees G (a.relabel c) x := by
  cases h with
  | sl k es nul room a len cap u hlen hn hk hcap hm hr hc hs h1 =>
    cases room with
    | own c' => exact .sl k es nul (.own c) a len cap u hlen hn hk hcap hm (fun h => by cases h) hc hs h1
    | no => exact .sl k es nul .no a len cap u hlen hn hk hcap hm hr hc hs h1
    | exact => exact .sl k es nul .exact a len cap u hlen hn hk hcap hm hr hc hs h1
  | v x => exact .v x
  | any x => exact .any x
  | box i off b h => exact .box i off b h
  | ro cs b o u hc hs h1 => exact .ro cs b o u hc hs h1
  | fn f first cap us vs h1 h2 hs1 hs2 => exact .fn f first cap us vs h1 h2 hs1 hs2
  | agg cs us hl hs h1 => exact .agg cs us hl hs h1
  | tup cs us hl hs => exact .tup cs us hl hs
  | bsl i off k n b cap hb hcap hm o ho => exact .bsl i off k n b cap hb hcap hm o ho
  | yld i b r c slots hb hk hl hs => exact .yld i b r c slots hb hk hl hs
  | mp i b n one hb hk => exact .mp i b n one hb hk
  | itr i b n one im mb hb hk hm => exact .itr i b n one im mb hb hk hm
  | ifc t a x h => exact .ifc t a x h
theorem AV.idOf_unown (a : AV) : a.unown.idOf = none := by
  cases a with
  | sl k es nul room => cases room <;> rfl
  | _ => rfl
theorem AV.unown_of {a : AV} (h : a.idOf = none) : a.unown = a := by
  cases a with
  | sl k es nul room => cases room <;> first | rfl | (simp [AV.idOf] at h)
  | _ => rfl

/-- The room behind a slice is that owner's: there is none, or its cells are the block's last so far. R tells which blocks. -/
def OwnAt (G : Ghost) (R : Nat → Id → Prop) : AV → Value → Prop
  | .sl k _ _ (.own c), .slice a len cap => (cap = len ∧ (c.isNew = true → a = none)) ∨ ∃ b o B, a = some ⟨b, o, none⟩ ∧ G.bufs b = some B ∧ B.cells.length = o + len * k ∧ o + cap * k ≤ B.size ∧ R b c
  | _, _ => True
theorem OwnAt.none {G : Ghost} {R : Nat → Id → Prop} {a : AV} (x : Value) (h : a.idOf = none) : OwnAt G R a x := by
  cases a with
  | sl k es nul room => cases room <;> first | (simp [AV.idOf] at h; done) | (cases x <;> exact trivial)
  | _ => exact trivial
theorem OwnAt.imp {G : Ghost} {R R' : Nat → Id → Prop} {a : AV} {x : Value} (h : OwnAt G R a x) (hR : ∀ b c, a.idOf = some c → R b c → R' b c) : OwnAt G R' a x := by
  cases a with
  | sl k es nul room =>
    cases room with
    | own c =>
      cases x with
      | slice a len cap =>
        rcases h with h | ⟨b, o, B, h1, h2, h3, h4, h5⟩
        · exact .inl h
        · exact .inr ⟨b, o, B, h1, h2, h3, h4, hR b c rfl h5⟩
      | _ => exact trivial
    | _ => cases x <;> exact trivial
  | _ => exact trivial
end Go.Proofs.YtofkddajlgebjaaGreat.Ax
/- The operations of a function over values without memory: what each of them makes, and what it asks. No program is named here. -/
namespace Go.Proofs.YtofkddajlgebjaaGreat.Ax
open Go.RowKit Go By

/-- A constant. -/
def ofC1 : Value → AV
  | .slice none 0 0 => .sl 0 [] (some true) .exact
  | x => .v x
def ofC : Value → AV
  | .agg _ => .any
  | x => ofC1 x

def find : List (Nat × AV) → Nat → Option AV
  | [], _ => none
  | (k, a) :: r, t => if k = t then some a else find r t
def drop (d : Nat) : List (Nat × AV) → List (Nat × AV)
  | [] => []
  | (k, a) :: r => if k = d then drop d r else (k, a) :: drop d r

/-- Where a function stands: its slots (those that may own room apart), the variables' blocks, which of them were written. -/
structure St where
  env : List (Nat × AV)
  own : List (Nat × AV)
  heap : List (List AV)
  wr : List Nat

def St.look (s : St) (t : Nat) : AV :=
  match find s.own t with
  | some a => a
  | none => match find s.env t with
    | some a => a
    | none => .any
def St.get (s : St) : Operand → AV
  | .tmp t => s.look t
  | .const v => ofC v
  | .func f => .fn (.func f) [] []
  | .global _ => .any
def St.mine (s : St) : Operand → Bool
  | .tmp t => (find s.own t).isSome
  | _ => false
/-- A slot is written, with what owns no room; with what may own some. -/
def St.put (s : St) (d : Nat) (a : AV) : St := { s with env := (d, a) :: s.env, own := drop d s.own }
def St.putO (s : St) (d : Nat) (a : AV) : St := { s with own := (d, a) :: drop d s.own }
def St.puts (s : St) (d : Option Nat) (a : AV) (o : Bool) : St :=
  match d with
  | some d => if o then s.putO d a else s.put d a
  | none => s
def AV.killed (p : Id → Bool) (a : AV) : AV :=
  match a with
  | .sl k es nul (.own c) => if p c then .sl k es nul .no else .sl k es nul (.own c)
  | a => a
def killE (p : Id → Bool) : List (Nat × AV) → List (Nat × AV)
  | [] => []
  | (k, a) :: r => (k, a.killed p) :: killE p r
/-- Those that own what p tells own it no more. -/
def St.kill (s : St) (p : Id → Bool) : St := { s with own := killE p s.own }

/-- The operations, with what their types say. -/
inductive XOp where
  | move (x : Operand)
  | assign (x : Operand)
  | pick (c a b : Operand)
  | alloc (z : List AV)
  | box (x : Operand)
  | build (z : List AV) (parts : List (Nat × Nat × Operand))
  | buildSlice (k len : Nat) (z : List AV) (parts : List (Nat × Operand))
  | load1 (x : Operand)
  | loadN (n : Nat) (x : Operand)
  | store (n : Nat) (p x : Operand)
  | nilCheck (x : Operand)
  | bin (op : BinOp) (x y : Operand)
  | beq (neg : Bool) (x y : Operand)
  | nileq (neg : Bool) (x : Operand)
  | pnileq (neg : Bool) (x : Operand)
  | inileq (neg : Bool) (x : Operand)
  | mkI (t : TypeId) (x : Operand)
  | aeq (neg : Bool) (ts : List Nat) (x y : Operand)
  | un (op : UnOp) (x : Operand)
  | conv (k : IntKind) (x : Operand)
  | same (x : Operand)
  | b2s (x : Operand)
  | mkfn (f : Fn) (first cap : List Operand)
  | slice (k : Nat) (x : Operand) (lo hi mx : Option Operand)
  | sliceS (x : Operand) (lo hi : Option Operand)
  | faddr (off : Nat) (x : Operand)
  | iaddr (k : Nat) (x i : Operand)
  | iaddrA (n k : Nat) (x i : Operand)
  | idxS (x i : Operand)
  | extract (x : Operand) (i : Nat)
  /-- A part of a value that has parts: one cell, or n of them. -/
  | fld (n : Nat) (one : Bool) (off : Nat) (x : Operand)
  | lenS (x : Operand)
  | lenL (x : Operand)
  | maxI (xs : List Operand)
  | minI (xs : List Operand)
  | append (k bytes : Nat) (s x : Operand)
  | appendS (s x : Operand)
  | s2b (x : Operand)
  | appendN (k bytes : Nat) (x : Operand)
  | call (f : FuncId) (args : List Operand)
  | callv (x : Operand) (args : List Operand)
  /-- Maps: keys are texts (none) or numbers of a kind; an element has n cells, or is no row of cells. -/
  | lookup (ks : Option IntKind) (n : Nat) (one c : Bool) (z : List AV) (x k : Operand)
  | lenM (n : Nat) (one : Bool) (x : Operand)
  | mnileq (neg : Bool) (x : Operand)
  | entry (x : Operand)
  | makeMap (n : Nat) (one : Bool)
  | mapUpd (ks : Option IntKind) (n : Nat) (one : Bool) (m k x : Operand)
  | mapDel (ks : Option IntKind) (n : Nat) (one : Bool) (m k : Operand)
  | rangeM (n : Nat) (one : Bool) (x : Operand)
  /-- A slice of no elements, not nil. -/
  | emptyS (k : Nat)
  /-- A slice of no elements, with room. -/
  | makeS (k bytes : Nat) (c : Operand)
  /-- A slice of elements that are zero: a variable. -/
  | makeB (k bytes : Nat) (z : List AV) (c : Operand)
  /-- The elements of a slice become 0. -/
  | clearS (k : Nat) (z : Value) (x : Operand)
  /-- A map's entries are gone. -/
  | clearM (n : Nat) (one : Bool) (x : Operand)
  /-- Elements of one cell are copied into a variable's slice. -/
  | copyB (x y : Operand)
  | bad

/-- What a test of two plain values, a sum of them, yields. -/
def binV (op : BinOp) : Value → Value → Option Value
  | .int k a, .int k' b =>
    if op = .shr then (if b < 0 then none else some (.int k (a.fdiv (2 ^ min b.toNat k.bits)))) else
    if op = .shl then (if b < 0 then none else some (.int k (k.wrap (a * 2 ^ min b.toNat k.bits)))) else
    if k = k' then
      match op with
      | .add => some (.int k (k.wrap (a + b)))
      | .sub => some (.int k (k.wrap (a - b)))
      | .mul => some (.int k (k.wrap (a * b)))
      | .eql => some (.bool (a == b))
      | .neq => some (.bool (a != b))
      | .lss => some (.bool (decide (a < b)))
      | .leq => some (.bool (decide (a ≤ b)))
      | .gtr => some (.bool (decide (a > b)))
      | .geq => some (.bool (decide (a ≥ b)))
      | .or => some (.int k (k.wrap (BitVec.ofInt k.bits a ||| BitVec.ofInt k.bits b).toNat))
      | .and => some (.int k (k.wrap (BitVec.ofInt k.bits a &&& BitVec.ofInt k.bits b).toNat))
      | .rem => if b = 0 then none else some (.int k (a.tmod b))
      | .quo => if b = 0 then none else some (.int k (k.wrap (a.tdiv b)))
      | _ => none
    else none
  | .string a, .string b =>
    match op with
    | .add => some (.string (a ++ b))
    | .eql => some (.bool (a.toList == b.toList))
    | .neq => some (.bool (!(a.toList == b.toList)))
    | .lss => some (.bool (Op.bytesLess a.toList b.toList))
    | _ => none
  | _, _ => none
/-- What a sum owes. -/
def binOk (op : BinOp) : Value → Value → Prop
  | .string a, .string b => match op with
    | .add => a.size + b.size ≤ 9223372036854775807
    | _ => True
  | _, _ => True

/-- A plain value of one cell. -/
def AV.one : AV → Bool
  | .v x => x.oneCell'
  | .box _ _ => true
  | .ro _ => true
  | .sl _ _ _ _ => true
  | .fn _ _ _ => true
  | .bsl _ _ _ _ => true
  | .yld _ _ _ _ => true
  | .mp _ _ _ => true
  | .itr _ _ _ _ => true
  | _ => false
def AV.cells : AV → Option (List AV)
  | .agg cs => some cs
  | a => if a.one then some [a] else none

/-- A part is laid into cells. -/
def lay {α : Type} : List α → Nat → List α → List α
  | cs, _, [] => cs
  | cs, o, a :: r => lay (cs.set o a) (o + 1) r
/-- Parts are laid into cells: each at its place, if it has its size. -/
def fillX : List AV → List (Nat × Nat × AV) → Option (List AV)
  | cs, [] => some cs
  | cs, (off, size, a) :: r =>
    match a.cells with
    | some l => if l.length = size ∧ off + size ≤ cs.length then fillX (lay cs off (l.map AV.unown)) r else none
    | none => none
def chunk (k : Nat) : Nat → List AV → List (List AV)
  | 0, _ => []
  | n + 1, l => l.take k :: chunk k n (l.drop k)

/-- What an operation yields that leaves memory as it is: what it owes, the value, may it own room, which variables it read. -/
structure Val where
  ok : Prop
  val : AV
  own : Bool
  ld : List Nat
def Val.bad : Val := ⟨False, .any, false, []⟩
def Val.of (a : AV) : Val := ⟨True, a, false, []⟩

def intOfV : AV → Option Int
  | .v (.int _ n) => some n
  | _ => none
def int64V : AV → Option Int
  | .v (.int .i64 n) => some n
  | _ => none
/-- The bounds of a cut: the low one, the high one, the room's. -/
def cutAt (s : St) (len : Int) (lo hi : Option Operand) : Option (Int × Int) :=
  match (match lo with | some x => intOfV (s.get x) | none => some 0), (match hi with | some x => intOfV (s.get x) | none => some len) with
  | some l, some h => some (l, h)
  | _, _ => none
def maxL : List Int → Option Int
  | [] => none
  | x :: r => some (r.foldl (fun m y => if y > m then y else m) x)
def pickV (t : Bool) : AV → AV → AV
  | .v (.bool x), .v (.bool y) => .v (.bool (bif t then x else y))
  | x, y => if t = true then x.unown else y.unown
def vPick (c a b : AV) : Val :=
  match c with
  | .v (.bool t) => .of (pickV t a b)
  | _ => .bad
def vLoad1 (h : List (List AV)) (x : AV) : Val :=
  match x with
  | .box i o =>
    match h[i]? with
    | some cs => match cs[o]? with
      | some a => ⟨True, a, a.idOf.isSome, [i]⟩
      | none => .bad
    | none => .bad
  | .ro (c :: _) => .of c.unown
  | _ => .bad
def vLoadN (h : List (List AV)) (n : Nat) (x : AV) : Val :=
  match x with
  | .box i o =>
    match h[i]? with
    | some cs => ⟨o + n ≤ cs.length, .agg (((cs.drop o).take n).map AV.unown), false, [i]⟩
    | none => .bad
  | .ro cs => ⟨n ≤ cs.length, .agg ((cs.take n).map AV.unown), false, []⟩
  | _ => .bad
def vBuild (z : List AV) (parts : List (Nat × Nat × AV)) : Val :=
  match fillX z parts with
  | some cs => .of (.agg cs)
  | none => .bad
def vNil (x : AV) : Val :=
  match x with
  | .box i o => .of (.box i o)
  | .ro cs => .of (.ro cs)
  | _ => .bad
def vBin (op : BinOp) (x y : AV) : Val :=
  match x, y with
  | .v a, .v b => match binV op a b with
    | some r => ⟨binOk op a b, .v r, false, []⟩
    | none => .bad
  | _, _ => .bad
def vBeq (neg : Bool) (x y : AV) : Val :=
  match x, y with
  | .v (.bool a), .v (.bool b) => .of (.v (.bool (bif neg then !(a == b) else a == b)))
  | _, _ => .bad
def vNilEq (neg : Bool) (x : AV) : Val :=
  match x with
  | .sl _ _ (some b) _ => .of (.v (.bool (bif neg then !b else b)))
  | .bsl _ _ _ _ => .of (.v (.bool neg))
  | _ => .bad
def vPnil (neg : Bool) (x : AV) : Val :=
  match x with
  | .box _ _ => .of (.v (.bool neg))
  | .ro _ => .of (.v (.bool neg))
  | .v (.pointer none) => .of (.v (.bool (!neg)))
  | _ => .bad
def vInil (neg : Bool) (x : AV) : Val :=
  match x with
  | .ifc _ _ => .of (.v (.bool neg))
  | .v .nilIface => .of (.v (.bool (!neg)))
  | _ => .bad
/-- Two cells of a kind: truth values (0), numbers (1), texts (2). -/
def eqK : Nat → AV → AV → Option Bool
  | 0, .v (.bool a), .v (.bool b) => some (a == b)
  | 1, .v (.int k a), .v (.int k' b) => if k = k' then some (a == b) else none
  | 2, .v (.string a), .v (.string b) => some (a.toList == b.toList)
  | _, _, _ => none
def eqCs : List Nat → List AV → List AV → Option Bool
  | [], [], [] => some true
  | t :: ts, a :: r, b :: q =>
    match eqK t a b, eqCs ts r q with
    | some x, some y => some (x && y)
    | _, _ => none
  | _, _, _ => none
def vAeq (neg : Bool) (ts : List Nat) (x y : AV) : Val :=
  match x, y with
  | .agg cs, .agg ds => match eqCs ts cs ds with
    | some b => .of (.v (.bool (bif neg then !b else b)))
    | none => .bad
  | _, _ => .bad
/-- The bytes of a text, as elements; elements that are bytes, as a text. -/
def bytesE (xs : List UInt8) : List (List AV) := xs.map fun c => [.v (.int .u8 (c.toNat : Int))]
def unbytes : List (List AV) → Option (List UInt8)
  | [] => some []
  | [.v (.int .u8 n)] :: r => if 0 ≤ n ∧ n < 256 then (unbytes r).map (UInt8.ofNat n.toNat :: ·) else none
  | _ => none
theorem unbytes_bytesE : ∀ xs : List UInt8, unbytes (bytesE xs) = some xs
  | [] => rfl
  | c :: r => by
    have := c.toNat_lt
    have ih := unbytes_bytesE r
    show unbytes ([.v (.int .u8 (c.toNat : Int))] :: bytesE r) = _
    rw [unbytes, if_pos (by omega), ih]
    simp
def vB2s (x : AV) : Val :=
  match x with
  | .sl _ es _ _ => match unbytes es with
    | some bs => .of (.v (.string (strB bs)))
    | none => .bad
  | _ => .bad
def vUn (op : UnOp) (x : AV) : Val :=
  match op, x with
  | .not, .v (.bool b) => .of (.v (.bool (!b)))
  | .neg, .v (.int k n) => .of (.v (.int k (k.wrap (0 - n))))
  | _, _ => .bad
def vConv (k : IntKind) (x : AV) : Val :=
  match x with
  | .v (.int _ n) => .of (.v (.int k (k.wrap n)))
  | _ => .bad
def vSame (x : AV) : Val :=
  match x with
  | .v (.string b) => .of (.v (.string b))
  | _ => .bad
/-- A cut that goes on to the end of a slice keeps the room behind it, if that is owned. -/
def cutOwn (tl : Bool) (room : Room) : Bool :=
  match tl, room with
  | true, .own c => !c.isNew
  | _, _ => false
def cutRoom (tl : Bool) (room : Room) : Room :=
  match tl, room with
  | true, .own c => if c.isNew = true then .no else .own c
  | _, _ => .no
theorem cutRoom_no {tl : Bool} {room : Room} (h : cutOwn tl room = false) : cutRoom tl room = .no := by
  cases tl with
  | false => rfl
  | true =>
    cases room with
    | own c =>
      have hn : c.isNew = true := by simpa [cutOwn] using h
      exact if_pos hn
    | _ => rfl
theorem cutRoom_own {tl : Bool} {room : Room} (h : cutOwn tl room = true) : tl = true ∧ ∃ c, room = .own c ∧ c.isNew = false ∧ cutRoom tl room = .own c := by
  cases tl with
  | false => cases h
  | true =>
    cases room with
    | own c =>
      have hn : c.isNew = false := by simpa [cutOwn] using h
      exact ⟨rfl, c, rfl, hn, if_neg (by rw [hn]; simp)⟩
    | no => cases h
    | exact => cases h
@[simp] theorem cutOwn_false (r : Room) : cutOwn false r = false := of_eq_true (eq_self _)
@[simp] theorem cutRoom_false (r : Room) : cutRoom false r = .no := of_eq_true (eq_self _)
@[simp] theorem cutOwn_own (c : Id) : cutOwn true (.own c) = !c.isNew := of_eq_true (eq_self _)
@[simp] theorem cutRoom_tl (c : Id) : cutRoom true (.own c) = if c.isNew = true then .no else .own c := of_eq_true (eq_self _)
@[simp] theorem cutOwn_n (t : Bool) : cutOwn t .no = false := by cases t <;> rfl
@[simp] theorem cutRoom_n (t : Bool) : cutRoom t .no = .no := by cases t <;> rfl
def vSlice (k : Nat) (x : AV) (b : Int → Option (Int × Int)) (m : Option (Option Int)) (tl : Bool) : Val :=
  match x with
  | .sl k' es nul room =>
    match b es.length with
    | some (l, h) =>
      match m with
      | none => ⟨(k' = k ∨ (es = [] ∧ cutOwn tl room = false)) ∧ 0 ≤ l ∧ l ≤ h ∧ h ≤ es.length, .sl k ((es.take h.toNat).drop l.toNat) nul (cutRoom tl room), cutOwn tl room, []⟩
      | some (some m) => ⟨(k' = k ∨ es = []) ∧ 0 ≤ l ∧ l ≤ h ∧ h = m ∧ h ≤ es.length, .sl k ((es.take h.toNat).drop l.toNat) nul .exact, false, []⟩
      | some none => .bad
    | none => .bad
  | .bsl i off k' n =>
    match b n with
    | some (l, h) =>
      match m with
      | none => ⟨k' = k ∧ 0 ≤ l ∧ l ≤ h ∧ h ≤ n, .bsl i (off + l.toNat * k) k (h - l).toNat, false, []⟩
      | some (some m) => ⟨k' = k ∧ 0 ≤ l ∧ l ≤ h ∧ h = m ∧ h ≤ n, .bsl i (off + l.toNat * k) k (h - l).toNat, false, []⟩
      | some none => .bad
    | none => .bad
  | _ => .bad
def vSliceS (x : AV) (b : Int → Option (Int × Int)) : Val :=
  match x with
  | .v (.string s) =>
    match b s.size with
    | some (l, h) => ⟨0 ≤ l ∧ l ≤ h ∧ h ≤ s.size, .v (.string (s.extract l.toNat h.toNat)), false, []⟩
    | none => .bad
  | _ => .bad
def vFaddr (off : Nat) (x : AV) : Val :=
  match x with
  | .box i o => .of (.box i (o + off))
  | .ro cs => .of (.ro (cs.drop off))
  | _ => .bad
def vIaddr (k : Nat) (x i : AV) : Val :=
  match x, i with
  | .sl k' es _ _, .v (.int _ n) => ⟨k' = k ∧ 0 ≤ n ∧ n < es.length, .ro (es.getD n.toNat []), false, []⟩
  | .bsl b off k' m, .v (.int _ n) => ⟨k' = k ∧ 0 ≤ n ∧ n < m, .box b (off + n.toNat * k), false, []⟩
  | _, _ => .bad
def vIaddrA (n k : Nat) (x i : AV) : Val :=
  match x, i with
  | .box b o, .v (.int _ j) => ⟨0 ≤ j ∧ j < n, .box b (o + j.toNat * k), false, []⟩
  | _, _ => .bad
def vIdxS (x i : AV) : Val :=
  match x, i with
  | .v (.string b), .v (.int _ n) => ⟨0 ≤ n ∧ n < b.size, .v (.int .u8 ((b.data.toList.getD n.toNat 0).toNat : Int)), false, []⟩
  | _, _ => .bad
def vExtract (x : AV) (i : Nat) : Val :=
  match x with
  | .tup vs => match vs[i]? with
    | some a => .of a.unown
    | none => .bad
  | _ => .bad
def vFld (n : Nat) (one : Bool) (off : Nat) (x : AV) : Val :=
  match one, x with
  | true, .agg cs => match cs[off]? with
    | some c => .of c.unown
    | none => .bad
  | false, .agg cs => ⟨off + n ≤ cs.length, .agg (((cs.drop off).take n).map AV.unown), false, []⟩
  | _, _ => .bad
def vLenS (x : AV) : Val :=
  match x with
  | .v (.string b) => .of (.v (.int .i64 (b.size : Int)))
  | _ => .bad
def vLenL (x : AV) : Val :=
  match x with
  | .sl _ es _ _ => .of (.v (.int .i64 (es.length : Int)))
  | .bsl _ _ _ n => .of (.v (.int .i64 (n : Int)))
  | _ => .bad
def vMax (l : Option (List Int)) : Val :=
  match l.bind maxL with
  | some n => .of (.v (.int .i64 n))
  | none => .bad
def minL : List Int → Option Int
  | [] => none
  | x :: r => some (r.foldl (fun m y => if y < m then y else m) x)
def vMin (l : Option (List Int)) : Val :=
  match l.bind minL with
  | some n => .of (.v (.int .i64 n))
  | none => .bad
/-! ### Maps -/
/-- An entry: its key, when it came, its element's cells. -/
structure AEnt where
  key : Value
  born : Nat
  cells : List AV
def AEnt.avs (e : AEnt) : List AV := .v e.key :: .v (.int .i64 (e.born : Int)) :: e.cells
/-- What a map's variable holds. -/
def mapC (clock : Nat) (l : List AEnt) : List AV := .v (.chan none) :: .v (.int .i64 (clock : Int)) :: l.flatMap AEnt.avs
def entsOf (n : Nat) : Nat → List AV → Option (List AEnt)
  | _, [] => some []
  | f + 1, .v k :: .v (.int .i64 b) :: r => if 0 ≤ b ∧ n ≤ r.length then (entsOf n f (r.drop n)).map (⟨k, b.toNat, r.take n⟩ :: ·) else none
  | _, _ => none
def mapOf (n : Nat) : List AV → Option (Nat × List AEnt)
  | .v (.chan none) :: .v (.int .i64 t) :: r => if 0 ≤ t then (entsOf n r.length r).map fun l => (t.toNat, l) else none
  | _ => none
/-- What the variable of a loop over a map holds: the map's clock as the loop began, as it went on last, which entries it had. -/
def itC (since last : Nat) (seen : List Nat) : List AV := .v (.chan none) :: .v (.int .i64 (since : Int)) :: .v (.int .i64 (last : Int)) :: seen.map fun b : Nat => AV.v (.int .i64 (b : Int))
def natV : AV → Option Nat
  | .v (.int .i64 b) => if 0 ≤ b then some b.toNat else none
  | _ => none
def natsOf : List AV → Option (List Nat)
  | [] => some []
  | c :: r => match natV c, natsOf r with
    | some b, some l => some (b :: l)
    | _, _ => none
def itOf : List AV → Option (Nat × Nat × List Nat)
  | .v (.chan none) :: .v (.int .i64 s) :: .v (.int .i64 t) :: r => if 0 ≤ s ∧ 0 ≤ t then (natsOf r).map fun l => (s.toNat, t.toNat, l) else none
  | _ => none
/-- Keys are texts, or numbers of one kind. -/
def keyEq : Value → Value → Bool
  | .int j a, .int k b => j == k && a == b
  | .string a, .string b => a == b
  | _, _ => false
def isKeyV (ks : Option IntKind) : Value → Bool
  | .string _ => ks.isNone
  | .int q _ => ks == some q
  | _ => false
/-- Keys are of that kind, and elements own nothing. -/
def keysOk (ks : Option IntKind) (l : List AEnt) : Prop := ∀ e ∈ l, isKeyV ks e.key = true ∧ ∀ c ∈ e.cells, c.idOf = none
def AEnt.find (k : Value) : List AEnt → Nat → Option (Nat × AEnt)
  | [], _ => none
  | e :: l, i => if keyEq k e.key = true then some (i, e) else AEnt.find k l (i + 1)
/-- A key is given an element: the entries, and the clock. -/
def AEnt.put (k : Value) (clock : Nat) (cells : List AV) (l : List AEnt) : List AEnt × Nat :=
  match AEnt.find k l 0 with
  | some (j, e) => (l.set j ⟨k, e.born, cells⟩, clock)
  | none => (l ++ [⟨k, clock, cells⟩], clock + 1)
/-- A key goes. -/
def AEnt.del (k : Value) (l : List AEnt) : List AEnt :=
  match AEnt.find k l 0 with
  | some (j, _) => l.eraseIdx j
  | none => l
/-- The entry that came then. -/
def AEnt.at_ (b : Nat) : List AEnt → Option AEnt
  | [] => none
  | e :: l => if e.born = b then some e else AEnt.at_ b l
/-- An element of these cells; the cells of an element. -/
def elA (one : Bool) (cs : List AV) : AV := if one = true then (cs.headD .any).unown else .agg (cs.map AV.unown)
def elC (n : Nat) (one : Bool) (x : AV) : Option (List AV) :=
  if one = true then (if x.one = true then some [x.unown] else none) else
    match x with
    | .agg cs => if cs.length = n then some (cs.map AV.unown) else none
    | _ => none
def mapAt (h : List (List AV)) (n i : Nat) : Option (Nat × List AEnt) := (h[i]?).bind (mapOf n)
def itAt (h : List (List AV)) (i : Nat) : Option (Nat × Nat × List Nat) := (h[i]?).bind itOf
def found (one c : Bool) (z : List AV) : Option (Nat × AEnt) → AV
  | some p => if c = true then .tup [elA one p.2.cells, .v (.bool true)] else elA one p.2.cells
  | none => if c = true then .tup [elA one z, .v (.bool false)] else elA one z
def vLookup (h : List (List AV)) (ks : Option IntKind) (n : Nat) (one c : Bool) (z : List AV) (x k : AV) : Val :=
  match k with
  | .v kv =>
    match x with
    | .v (.map none) => ⟨isKeyV ks kv = true, found one c z none, false, []⟩
    | .mp i n' one' =>
      match mapAt h n i with
      | some p => ⟨(n' = n ∧ one' = one) ∧ isKeyV ks kv = true ∧ keysOk ks p.2, found one c z (AEnt.find kv p.2 0), false, [i]⟩
      | none => .bad
    | _ => .bad
  | _ => .bad
def vLenM (h : List (List AV)) (n : Nat) (one : Bool) (x : AV) : Val :=
  match x with
  | .v (.map none) => .of (.v (.int .i64 0))
  | .mp i n' one' =>
    match mapAt h n i with
    | some p => ⟨n' = n ∧ one' = one, .v (.int .i64 (p.2.length : Int)), false, [i]⟩
    | none => .bad
  | _ => .bad
def vMnil (neg : Bool) (x : AV) : Val :=
  match x with
  | .mp _ _ _ => .of (.v (.bool neg))
  | .v (.map none) => .of (.v (.bool (!neg)))
  | _ => .bad
def vEntry (h : List (List AV)) (x : AV) : Val :=
  match x with
  | .itr j (some i) n one =>
    match itAt h j, mapAt h n i with
    | some q, some p =>
      match q.2.2.getLast?.bind fun b => AEnt.at_ b p.2 with
      | some e => ⟨q.2.1 = p.1 ∧ (one = true → 0 < n), .tup [.v e.key, elA one e.cells], false, [j, i]⟩
      | none => .bad
    | _, _ => .bad
  | _ => .bad
def xval (s : St) : XOp → Val
  | .move x => ⟨True, s.get x, s.mine x, []⟩
  | .pick c a b => vPick (s.get c) (s.get a) (s.get b)
  | .load1 x => vLoad1 s.heap (s.get x)
  | .loadN n x => vLoadN s.heap n (s.get x)
  | .build z parts => vBuild z (parts.map fun p => (p.1, p.2.1, s.get p.2.2))
  | .nilCheck x => vNil (s.get x)
  | .bin op x y => vBin op (s.get x) (s.get y)
  | .beq neg x y => vBeq neg (s.get x) (s.get y)
  | .nileq neg x => vNilEq neg (s.get x)
  | .pnileq neg x => vPnil neg (s.get x)
  | .inileq neg x => vInil neg (s.get x)
  | .mkI t x => .of (.ifc t (s.get x).unown)
  | .aeq neg ts x y => vAeq neg ts (s.get x) (s.get y)
  | .b2s x => vB2s (s.get x)
  | .un op x => vUn op (s.get x)
  | .conv k x => vConv k (s.get x)
  | .same x => vSame (s.get x)
  | .mkfn f first cap => .of (.fn f (first.map fun x => (s.get x).unown) (cap.map fun x => (s.get x).unown))
  | .slice k x lo hi mx => vSlice k (s.get x) (cutAt s · lo hi) (mx.map fun m => intOfV (s.get m)) (hi.isNone && mx.isNone)
  | .sliceS x lo hi => vSliceS (s.get x) (cutAt s · lo hi)
  | .faddr off x => vFaddr off (s.get x)
  | .iaddr k x i => vIaddr k (s.get x) (s.get i)
  | .iaddrA n k x i => vIaddrA n k (s.get x) (s.get i)
  | .idxS x i => vIdxS (s.get x) (s.get i)
  | .extract x i => vExtract (s.get x) i
  | .fld n one off x => vFld n one off (s.get x)
  | .lenS x => vLenS (s.get x)
  | .lenL x => vLenL (s.get x)
  | .maxI xs => vMax (xs.mapM fun x => int64V (s.get x))
  | .minI xs => vMin (xs.mapM fun x => int64V (s.get x))
  | .lookup ks n one c z x k => vLookup s.heap ks n one c z (s.get x) (s.get k)
  | .lenM n one x => vLenM s.heap n one (s.get x)
  | .mnileq neg x => vMnil neg (s.get x)
  | .entry x => vEntry s.heap (s.get x)
  | _ => .bad

/-- Is it one that leaves memory as it is? -/
def XOp.isVal : XOp → Bool
  | .move _ | .pick .. | .load1 _ | .loadN .. | .build .. | .nilCheck _ | .bin .. | .beq .. | .nileq .. | .pnileq .. | .inileq .. | .mkI .. | .aeq .. | .b2s _ | .un .. | .conv .. | .same _ | .mkfn .. | .slice .. | .sliceS .. | .faddr .. | .iaddr .. | .iaddrA .. | .idxS .. | .extract .. | .fld .. | .lenS _ | .lenL _ | .maxI _ | .minI _ | .lookup .. | .lenM .. | .mnileq .. | .entry _ => true
  | _ => false
end Go.Proofs.YtofkddajlgebjaaGreat.Ax
/- What an operation over values without memory says of the model's: those that leave memory as it is. No program is named here. -/
namespace Go.Proofs.YtofkddajlgebjaaGreat.Ax
open Go.RowKit Go By

section
variable {G : Ghost}
theorem Sees.inv_v {x y : Value} (h : Sees G (.v x) y) : y = x := by cases h; rfl
theorem Sees.inv_ifc {t : TypeId} {g : AV} {y : Value} (h : Sees G (.ifc t g) y) : ∃ v, y = .iface t v ∧ Sees G g v := by cases h with | ifc _ _ v h => exact ⟨v, rfl, h⟩
theorem Sees.inv_box {i o : Nat} {y : Value} (h : Sees G (.box i o) y) : ∃ b, y = .pointer (some ⟨b, G.base i + o, none⟩) ∧ (G.boxes[i]? = some b ∧ G.kinds b = none) := by cases h with | box _ _ b h => exact ⟨b, rfl, h⟩
theorem Sees.inv_ro {cs : List AV} {y : Value} (h : Sees G (.ro cs) y) : ∃ (b o : Nat) (u : Nat → Value), y = .pointer (some ⟨b, o, none⟩) ∧ (∀ j, j < cs.length → G.cell b (o + j) = some (u j)) ∧ (∀ j c, cs[j]? = some c → Sees G c (u j)) ∧ ∀ j, j < cs.length → (u j).oneCell' = true := by
  cases h with | ro _ b o u hc hs h1 => exact ⟨b, o, u, rfl, hc, hs, h1⟩
theorem Sees.inv_tup {cs : List AV} {y : Value} (h : Sees G (.tup cs) y) : ∃ us : List Value, y = .tuple us.toArray ∧ us.length = cs.length ∧ ∀ j c, cs[j]? = some c → Sees G c (us.getD j undef) := by
  cases h with | tup _ us hl hs => exact ⟨us, rfl, hl, hs⟩
theorem Sees.inv_agg {cs : List AV} {y : Value} (h : Sees G (.agg cs) y) : ∃ us : List Value, y = .agg us.toArray ∧ us.length = cs.length ∧ (∀ j c, cs[j]? = some c → Sees G c (us.getD j undef)) ∧ ∀ x, x ∈ us → x.oneCell' = true := by
  cases h with | agg _ us hl hs h1 => exact ⟨us, rfl, hl, hs, h1⟩
theorem Sees.inv_fn {f : Fn} {a b : List AV} {y : Value} (h : Sees G (.fn f a b) y) : ∃ us vs : List Value, y = .func f us.toArray vs.toArray ∧ us.length = a.length ∧ vs.length = b.length ∧ (∀ j c, a[j]? = some c → Sees G c (us.getD j undef)) ∧ ∀ j c, b[j]? = some c → Sees G c (vs.getD j undef) := by
  cases h with | fn _ _ _ us vs h1 h2 h3 h4 => exact ⟨us, vs, rfl, h1, h2, h3, h4⟩
/-- Lists of values. -/
def SeesL (G : Ghost) (cs : List AV) (us : List Value) : Prop := us.length = cs.length ∧ ∀ (j : Nat) (c : AV), cs[j]? = some c → Sees G c (us.getD j undef)
theorem SeesL.nil : SeesL G [] [] := ⟨rfl, fun j c h => by simp at h⟩
theorem SeesL.cons {c : AV} {cs : List AV} {u : Value} {us : List Value} (h : Sees G c u) (hs : SeesL G cs us) : SeesL G (c :: cs) (u :: us) := by
  refine ⟨by simp [hs.1], fun j x hx => ?_⟩
  cases j with
  | zero => simp at hx; subst hx; simpa using h
  | succ j => simpa using hs.2 j x (by simpa using hx)
theorem SeesL.tail {c : AV} {cs : List AV} {u : Value} {us : List Value} (h : SeesL G (c :: cs) (u :: us)) : Sees G c u ∧ SeesL G cs us := by
  refine ⟨by simpa using h.2 0 c rfl, by simpa using h.1, fun j x hx => by simpa using h.2 (j + 1) x (by simpa using hx)⟩
theorem SeesL.set {cs : List AV} {us : List Value} (h : SeesL G cs us) (o : Nat) {a : AV} {x : Value} (hx : Sees G a x) : SeesL G (cs.set o a) (us.set o x) := by
  refine ⟨by simp [h.1], fun j c hc => ?_⟩
  rw [List.getElem?_set] at hc
  rw [List.getD_eq_getElem?_getD, List.getElem?_set]
  by_cases ho : o = j
  · subst ho
    rw [if_pos rfl] at hc ⊢
    by_cases hl : o < cs.length
    · rw [if_pos hl] at hc; injection hc with hc; subst hc; rw [if_pos (by rw [h.1]; exact hl)]; exact hx
    · rw [if_neg hl] at hc; cases hc
  · rw [if_neg ho] at hc ⊢
    have := h.2 j c hc
    rwa [List.getD_eq_getElem?_getD] at this
theorem SeesL.map_unown {cs : List AV} {us : List Value} (h : SeesL G cs us) : SeesL G (cs.map AV.unown) us := by
  refine ⟨by simp [h.1], fun j c hc => ?_⟩
  rw [List.getElem?_map] at hc
  cases hj : cs[j]? with
  | none => rw [hj] at hc; cases hc
  | some x => rw [hj] at hc; injection hc with hc; subst hc; exact (h.2 j x hj).unown
theorem SeesL.drop {cs : List AV} {us : List Value} (h : SeesL G cs us) (n : Nat) : SeesL G (cs.drop n) (us.drop n) := by
  refine ⟨by simp [h.1], fun j c hc => ?_⟩
  rw [List.getElem?_drop] at hc
  have := h.2 _ c hc
  rwa [List.getD_eq_getElem?_getD, List.getElem?_drop, ← List.getD_eq_getElem?_getD]
theorem SeesL.take {cs : List AV} {us : List Value} (h : SeesL G cs us) (n : Nat) : SeesL G (cs.take n) (us.take n) := by
  refine ⟨by simp [h.1], fun j c hc => ?_⟩
  rw [List.getElem?_take] at hc
  split at hc
  · rename_i hj
    have := h.2 _ c hc
    rw [List.getD_eq_getElem?_getD, List.getElem?_take, if_pos hj, ← List.getD_eq_getElem?_getD]
    exact this
  · cases hc
theorem one_cell {a : AV} {x : Value} (h : Sees G a x) (ha : a.one = true) : x.oneCell' = true := by
  cases h <;> first | exact ha | rfl | (simp [AV.one] at ha)
theorem cells_of_one {x : Value} (h : x.oneCell' = true) : x.cells = #[x] := by cases x <;> first | rfl | cases h
theorem sees_cells {a : AV} {x : Value} (h : Sees G a x) {l : List AV} (hl : a.cells = some l) : SeesL G l x.cells.toList ∧ ∀ y ∈ x.cells.toList, y.oneCell' = true := by
  unfold AV.cells at hl
  split at hl
  · injection hl with hl; subst hl
    obtain ⟨us, rfl, h1, h2, h3⟩ := h.inv_agg
    exact ⟨⟨by simpa [Value.cells] using h1, by simpa [Value.cells] using h2⟩, by simpa [Value.cells] using h3⟩
  · split at hl
    · rename_i h1
      injection hl with hl; subst hl
      rw [cells_of_one (one_cell h h1)]
      exact ⟨SeesL.nil.cons h, by simpa using one_cell h h1⟩
    · cases hl
theorem sees_ofC1 (x : Value) : Sees G (ofC1 x) x := by
  unfold ofC1
  split
  · exact .sl 0 [] (some true) .exact none 0 0 (fun _ _ => undef) rfl ⟨fun _ => ⟨rfl, rfl⟩, fun _ => rfl, fun h => by cases h⟩ (fun e h => by cases h) (Nat.le_refl _) (by simp [maxLen]) (fun _ => rfl) (fun h => by simp at h) (fun i e h => by simp at h) (fun i j h => by simp at h)
  · exact .v _
theorem sees_ofC (x : Value) : Sees G (ofC x) x := by
  unfold ofC
  split
  · exact .any _
  · exact sees_ofC1 _
theorem ofC1_id (x : Value) : (ofC1 x).idOf = none := by
  unfold ofC1; split <;> rfl
theorem ofC_id (x : Value) : (ofC x).idOf = none := by
  unfold ofC
  split
  · rfl
  · exact ofC1_id _
end

/-- What a function found as it began. -/
structure Ctx where
  G0 : Ghost
  T : Nat → Prop
/-- A block that the function may make grow. -/
def Acc (C : Ctx) (b : Nat) : Prop := C.G0.bufs b = none ∨ C.T b
/-- Which blocks are that owner's. -/
def Own (C : Ctx) (cls : Nat → Id) (b : Nat) (x : Id) : Prop := cls b = x ∧ Acc C b

/-- What loops over functions leave to be done at the end: nothing. -/
def markOf (D : Nat) : Deferred := { target := .collected D, args := #[] }
def Marks (G0 G : Ghost) (ds : List Deferred) : Prop := ∃ Ds : List Nat, ds = Ds.map markOf ∧ Ds.Nodup ∧ ∀ D ∈ Ds, G.objs D = some (.deferred (some [])) ∧ G0.objs D = none ∧ G.w0.heap.size ≤ D
theorem Marks.none (G0 G : Ghost) : Marks G0 G [] := ⟨[], rfl, List.nodup_nil, fun D h => by cases h⟩
theorem Marks.ext {G0 G G' : Ghost} {ds : List Deferred} (h : Marks G0 G ds) (hE : Ext G G') : Marks G0 G' ds := by
  obtain ⟨Ds, h1, h2, h3⟩ := h
  refine ⟨Ds, h1, h2, fun D hD => ?_⟩
  obtain ⟨a, b, c⟩ := h3 D hD
  exact ⟨hE.objs.1 D _ a, b, by rw [hE.w0]; exact c⟩
/-- Where the function stands, seen without memory, and where it stands. -/
structure Rel (C : Ctx) (N : Nat) (G : Ghost) (cls : Nat → Id) (s : St) (a : Act) (w : World) : Prop where
  ok : WorldOk G w
  heap : SeesH G s.heap
  ownh : ∀ (i : Nat) (cs : List AV) (vs : List Value), s.heap[i]? = some cs → G.boxv[i]? = some vs → ∀ (j : Nat) (c : AV), cs[j]? = some c → OwnAt G (Own C cls) c (vs.getD j undef) ∧ ∀ x, c.idOf = some x → x = .cell i j
  env : ∀ t, t < N → Sees G (s.look t) (a.tmps.getD t undef) ∧ OwnAt G (Own C cls) (s.look t) (a.tmps.getD t undef)
  plain : ∀ t, find s.own t = none → (s.look t).idOf = none
  size : a.tmps.size = N
  defers : Marks C.G0 G a.defers
  ext : Ext C.G0 G
  boxes : ∀ i, i < C.G0.boxv.length → i ∉ s.wr → G.boxv[i]? = C.G0.boxv[i]?
  bufs : ∀ b B, C.G0.bufs b = some B → ¬ C.T b → G.bufs b = some B

/-- Slots that there are. -/
def fitsO (N : Nat) : Operand → Bool
  | .tmp t => decide (t < N)
  | _ => true

section
variable {P : Program} {C : Ctx} {N : Nat} {G : Ghost} {cls : Nat → Id} {s : St} {a : Act} {w : World}
theorem Rel.get (h : Rel C N G cls s a w) {x : Operand} (hx : fitsO N x = true) : Sees G (s.get x) (a.eval x) := by
  cases x with
  | tmp t => exact (h.env t (by simpa [fitsO] using hx)).1
  | const v => exact sees_ofC v
  | global g => exact .any _
  | func f => exact .fn (.func f) [] [] [] [] rfl rfl (fun j c h => by simp at h) (fun j c h => by simp at h)
theorem Rel.getOwn (h : Rel C N G cls s a w) {x : Operand} (hx : fitsO N x = true) : OwnAt G (Own C cls) (s.get x) (a.eval x) := by
  cases x with
  | tmp t => exact (h.env t (by simpa [fitsO] using hx)).2
  | const v => exact .none _ (ofC_id v)
  | global g => exact trivial
  | func f => exact trivial
theorem Rel.getPlain (h : Rel C N G cls s a w) {x : Operand} (hx : s.mine x = false) : (s.get x).idOf = none := by
  cases x with
  | tmp t => exact h.plain t (by cases hf : find s.own t <;> simp [St.mine, hf] at hx ⊢)
  | const v => exact ofC_id v
  | global g => rfl
  | func f => rfl

/-- What an operation's value says of the model's. -/
def ValS (P : Program) (G : Ghost) (R : Nat → Id → Prop) (a : Act) (o : Oper) (V : Val) : Prop :=
  ∃ v, Sees G V.val v ∧ OwnAt G R V.val v ∧ (V.own = false → V.val.idOf = none) ∧
    ∀ (G' : Ghost) (w' : World), Ext G G' → WorldOk G' w' → (∀ i ∈ V.ld, G'.boxv[i]? = G.boxv[i]?) → (execOp a.eval o).run P w' = .ok (.value v) w'
/-- .. that owns nothing, and hangs on no memory. -/
theorem ValS.plain {R : Nat → Id → Prop} {o : Oper} {b : AV} {v : Value} {p : Prop} {ld : List Nat} (hs : Sees G b v) (hi : b.idOf = none) (hr : ∀ w', (execOp a.eval o).run P w' = .ok (.value v) w') : ValS P G R a o ⟨p, b, false, ld⟩ :=
  ⟨v, hs, .none _ hi, fun _ => hi, fun _ w' _ _ _ => hr w'⟩

theorem val_move (h : Rel C N G cls s a w) (o : Oper) (x : Operand) (ho : o.op = .move x) (hx : fitsO N x = true) : ValS P G (Own C cls) a o (xval s (.move x)) :=
  ⟨a.eval x, h.get hx, h.getOwn hx, fun hm => h.getPlain hm, fun _ w' _ _ _ => by unfold execOp; rw [ho]; rfl⟩
theorem pickV_sees {t : Bool} {x y : AV} {u v : Value} (hx : Sees G x u) (hy : Sees G y v) : Sees G (pickV t x y) (if t then u else v) ∧ (pickV t x y).idOf = none := by
  unfold pickV
  split
  · rw [hx.inv_v, hy.inv_v]
    cases t
    · exact ⟨.v _, rfl⟩
    · exact ⟨.v _, rfl⟩
  · cases t
    · exact ⟨hy.unown, AV.idOf_unown _⟩
    · exact ⟨hx.unown, AV.idOf_unown _⟩
theorem val_pick {R : Nat → Id → Prop} (o : Oper) (c x y : Operand) (ho : o.op = .pick c x y) {gc gx gy : AV} (h1 : Sees G gc (a.eval c)) (h2 : Sees G gx (a.eval x)) (h3 : Sees G gy (a.eval y)) (hok : (vPick gc gx gy).ok) : ValS P G R a o (vPick gc gx gy) := by
  unfold vPick at hok ⊢
  split at hok
  · obtain ⟨hs, hi⟩ := pickV_sees (t := _) h2 h3
    exact ValS.plain hs hi fun w' => by simp [execOp, ho, h1.inv_v, asBool]
  · exact hok.elim
/-- What a variable's cell holds, in whatever world it has not turned in. -/
theorem Rel.cellAt (h : Rel C N G cls s a w) {i b : Nat} {cs : List AV} (hb : G.boxes[i]? = some b ∧ G.kinds b = none) (hcs : s.heap[i]? = some cs) :
    ∃ vs, G.boxv[i]? = some vs ∧ SeesL G cs vs ∧ (∀ x ∈ vs, x.oneCell' = true) ∧ (∀ (j : Nat) (c : AV), cs[j]? = some c → OwnAt G (Own C cls) c (vs.getD j undef)) ∧
      ∀ (G' : Ghost) (w' : World), Ext G G' → WorldOk G' w' → G'.boxv[i]? = G.boxv[i]? → ∀ j, j < cs.length → w'.cell? ⟨b, G.base i + j, none⟩ = some (vs.getD j undef) := by
  have hv : i < G.boxv.length := by rw [h.ok.len]; exact (List.getElem?_eq_some_iff.1 hb.1).1
  obtain ⟨vs, hvs⟩ : ∃ vs, G.boxv[i]? = some vs := ⟨_, List.getElem?_eq_getElem hv⟩
  obtain ⟨hl, hone, hsv⟩ := h.heap.2 i cs vs hcs hvs
  refine ⟨vs, hvs, ⟨hl, hsv⟩, hone, fun j c hc => (h.ownh i cs vs hcs hvs j c hc).1, fun G' w' hE hW hld j hj => ?_⟩
  have hvs' : G'.boxv[i]? = some vs := by rw [hld, hvs]
  have hb' := hE.box_at2 hb
  rw [← hE.baseE hb.1]
  exact ((hW.box i b vs hb'.1 hvs').2.2.2 j _ (by rw [List.getD_eq_getElem?_getD, List.getElem?_eq_getElem (show j < vs.length by omega)]; rfl) hb'.2).1
theorem val_load1 (h : Rel C N G cls s a w) (o : Oper) (t : TypeId) (d : TypeDesc) (x : Operand) (ho : o.op = .load t x) (hd : P.underlying t = some d) (hag : ∀ fs n e, d ≠ .struct fs ∧ d ≠ .array n e) {gx : AV} (h1 : Sees G gx (a.eval x)) (hok : (vLoad1 s.heap gx).ok) : ValS P G (Own C cls) a o (vLoad1 s.heap gx) := by
  have hrun : ∀ (b off : Nat) (v : Value) (w' : World), a.eval x = .pointer (some ⟨b, off, none⟩) → w'.cell? ⟨b, off, none⟩ = some v → (execOp a.eval o).run P w' = .ok (.value v) w' := fun b off v w' he hc => by
    have hag' : (isAgg t).run P w' = .ok false w' := by
      simp only [isAgg, Sem.run_bind, run_underlying hd, Result.andThen_ok]
      cases d <;> first | rfl | exact absurd rfl (hag _ 0 0).1 | exact absurd rfl (hag #[] _ _).2
    simp [execOp, ho, he, Instr.loadAt, Instr.sureAddr, loadVar, hag', hc]
  unfold vLoad1 at hok ⊢
  split at hok
  · rename_i i off
    obtain ⟨b, he, hb⟩ := h1.inv_box
    split at hok
    · rename_i cs hcs
      split at hok
      · rename_i c hc
        obtain ⟨vs, hvs, hsl, hone, hown, hcell⟩ := h.cellAt hb hcs
        refine ⟨vs.getD off undef, hsl.2 off c hc, hown off c hc, fun hm => by simpa using hm, fun G' w' hE hW hld => ?_⟩
        exact hrun b _ _ w' he (hcell G' w' hE hW (hld i (by simp)) off (List.getElem?_eq_some_iff.1 hc).1)
      · exact hok.elim
    · exact hok.elim
  · rename_i c r
    obtain ⟨b, off, u, he, hc, hs, ho1⟩ := h1.inv_ro
    refine ⟨u 0, (hs 0 c rfl).unown, .none _ (AV.idOf_unown _), fun _ => AV.idOf_unown _, fun G' w' hE hW _ => ?_⟩
    exact hrun b off _ w' he (hW.cell (hE.cell (by simpa using hc 0 (by simp))))
  · exact hok.elim
theorem val_loadN (h : Rel C N G cls s a w) (o : Oper) (t : TypeId) (n : Nat) (d : TypeDesc) (x : Operand) (ho : o.op = .load t x) (hd : P.underlying t = some d) (hag : (∃ fs, d = .struct fs) ∨ ∃ n e, d = .array n e) (hn : (P.info? t).map (·.size) = some n) {gx : AV} (h1 : Sees G gx (a.eval x)) (hok : (vLoadN s.heap n gx).ok) : ValS P G (Own C cls) a o (vLoadN s.heap n gx) := by
  have hrun : ∀ (b off : Nat) (us : List Value) (w' : World), us.length = n → a.eval x = .pointer (some ⟨b, off, none⟩) → (∀ j, j < n → w'.cell? ⟨b, off + j, none⟩ = some (us.getD j undef)) → (execOp a.eval o).run P w' = .ok (.value (.agg us.toArray)) w' := fun b off us w' hul he hc => by
    have hag' : (isAgg t).run P w' = .ok true w' := by
      simp only [isAgg, Sem.run_bind, run_underlying hd, Result.andThen_ok]
      rcases hag with ⟨_, rfl⟩ | ⟨_, _, rfl⟩ <;> rfl
    have hsz : (sizeOf t).run P w' = .ok n w' := by
      cases hi : P.info? t with
      | none => rw [hi] at hn; cases hn
      | some i => rw [hi] at hn; injection hn with hn; simp [sizeOf, typeInfo, hi, hn]
    have hl : (loadCells ⟨b, off, none⟩ n).run P w' = .ok us.toArray w' := by
      have := run_loadCells_list (P := P) w' ⟨b, off, none⟩ us (fun j v hj => by
        have hjl : j < us.length := (List.getElem?_eq_some_iff.1 hj).1
        rw [add_plain, hc j (by omega), List.getD_eq_getElem?_getD, hj]; rfl)
      rw [hul] at this
      exact this
    simp [execOp, ho, he, Instr.loadAt, Instr.sureAddr, loadVar, hag', hsz, hl]
  unfold vLoadN at hok ⊢
  split at hok
  · rename_i i off
    obtain ⟨b, he, hb⟩ := h1.inv_box
    split at hok
    · rename_i cs hcs
      obtain ⟨vs, hvs, hsl, hone, hown, hcell⟩ := h.cellAt hb hcs
      have hok' : off + n ≤ cs.length := hok
      have hs2 := ((hsl.drop off).take n).map_unown
      refine ⟨.agg ((vs.drop off).take n).toArray, .agg _ _ hs2.1 hs2.2 (fun x hx => hone x (List.mem_of_mem_drop (List.mem_of_mem_take hx))), .none _ rfl, fun _ => rfl, fun G' w' hE hW hld => hrun b _ _ w' (by rw [List.length_take, List.length_drop, hsl.1]; omega) he fun j hj => ?_⟩
      rw [Nat.add_assoc, hcell G' w' hE hW (hld i (by simp)) (off + j) (by omega), List.getD_eq_getElem?_getD, List.getD_eq_getElem?_getD, List.getElem?_take, if_pos hj, List.getElem?_drop]
    · exact hok.elim
  · rename_i cs
    obtain ⟨b, off, u, he, hc, hs, ho1⟩ := h1.inv_ro
    have hok' : n ≤ cs.length := hok
    refine ⟨.agg ((List.range n).map u).toArray, .agg _ _ (by simp; omega) (fun j c hj => ?_) (fun x hx => ?_), .none _ rfl, fun _ => rfl, fun G' w' hE hW _ => hrun b off _ w' (by simp) he fun j hj => ?_⟩
    · rw [List.getElem?_map, List.getElem?_take] at hj
      split at hj
      · rename_i hjn
        cases hx : cs[j]? with
        | none => rw [hx] at hj; cases hj
        | some y =>
          rw [hx] at hj
          injection hj with hj
          rw [List.getD_eq_getElem?_getD, List.getElem?_map, List.getElem?_range hjn, ← hj]
          exact (hs j y hx).unown
      · cases hj
    · obtain ⟨j, hj, rfl⟩ := List.mem_map.1 hx
      exact ho1 j (by have := List.mem_range.1 hj; omega)
    · rw [List.getD_eq_getElem?_getD, List.getElem?_map, List.getElem?_range hj]
      exact hW.cell (hE.cell (hc j (by omega)))
  · exact hok.elim
theorem val_nil {R : Nat → Id → Prop} (o : Oper) (x : Operand) (ho : o.op = .nilCheck x) {gx : AV} (h1 : Sees G gx (a.eval x)) (hok : (vNil gx).ok) : ValS P G R a o (vNil gx) := by
  unfold vNil at hok ⊢
  split at hok
  · obtain ⟨b, he, hb⟩ := h1.inv_box
    exact ValS.plain (.box _ _ b hb) rfl fun w' => by simp [execOp, ho, he]
  · obtain ⟨b, off, u, he, hc, hs, ho1⟩ := h1.inv_ro
    exact ValS.plain (.ro _ b off u hc hs ho1) rfl fun w' => by simp [execOp, ho, he]
  · exact hok.elim
theorem run_binV {op : BinOp} {t : TypeId} {u v r : Value} (hr : binV op u v = some r) (hk : binOk op u v) (w' : World) : (binOp op t u v).run P w' = .ok r w' := by
  unfold binV at hr
  split at hr
  · rename_i k x k' y
    split at hr
    · rename_i hop
      subst hop
      split at hr
      · cases hr
      · rename_i hy
        injection hr with hr; subst hr
        simp [binOp, Op.shift, hy]
    split at hr
    · rename_i hop
      subst hop
      split at hr
      · cases hr
      · rename_i hy
        injection hr with hr; subst hr
        simp [binOp, Op.shift, hy]
    split at hr
    · rename_i hnop hnop2 hkk
      subst hkk
      cases op <;> simp at hr
      case or => subst hr; simp [binOp, Op.intBits]
      case and => subst hr; simp [binOp, Op.intBits]
      case quo => obtain ⟨h0, hr⟩ := hr; subst hr; simp [binOp, Op.intDiv, h0]
      case rem => obtain ⟨h0, hr⟩ := hr; subst hr; simp [binOp, Op.intDiv, h0]
      all_goals (subst hr; simp [binOp, Op.intArith, Op.intCmp])
    · cases hr
  · rename_i x y
    cases op <;> simp at hr <;> subst hr
    · have : ¬ ((x.size + y.size : Nat) : Int) > IntKind.i64.max := by
        have h1 : x.size + y.size ≤ 9223372036854775807 := hk
        have h2 : IntKind.i64.max = 9223372036854775807 := rfl
        omega
      simp only [binOp, Op.stringOp, if_neg this]; rfl
    all_goals rfl
  · cases hr
theorem val_bin {R : Nat → Id → Prop} (o : Oper) (op : BinOp) (t u : TypeId) (x y : Operand) (ho : o.op = .binOp op t x y u) {gx gy : AV} (h1 : Sees G gx (a.eval x)) (h2 : Sees G gy (a.eval y)) (hok : (vBin op gx gy).ok) : ValS P G R a o (vBin op gx gy) := by
  unfold vBin at hok ⊢
  split at hok
  · rename_i u v
    split at hok
    · rename_i r hr
      refine ValS.plain (v := r) (.v _) rfl fun w' => ?_
      have hg : (eqGuard op t x y u v).run P w' = .ok () w' := by
        unfold binV at hr
        split at hr
        · cases op <;> rfl
        · cases op <;> rfl
        · cases hr
      simp [execOp, ho, h1.inv_v, h2.inv_v, hg, run_binV hr hok w']
    · exact hok.elim
  · exact hok.elim
theorem val_beq {R : Nat → Id → Prop} (o : Oper) (neg : Bool) (t u : TypeId) (x y : Operand) (ho : o.op = .binOp (bif neg then .neq else .eql) t x y u) (ht : P.underlying t = some .bool) {gx gy : AV} (h1 : Sees G gx (a.eval x)) (h2 : Sees G gy (a.eval y)) (hok : (vBeq neg gx gy).ok) : ValS P G R a o (vBeq neg gx gy) := by
  unfold vBeq at hok ⊢
  split at hok
  · rename_i u v
    refine ValS.plain (v := .bool (bif neg then !(u == v) else u == v)) (.v _) rfl fun w' => ?_
    have hg : ∀ op, (eqGuard op t x y (.bool u) (.bool v)).run P w' = .ok () w' := fun op => by cases op <;> rfl
    cases neg
    · simp [execOp, ho, h1.inv_v, h2.inv_v, hg, run_eql_bool w' t u v ht]
    · simp [execOp, ho, h1.inv_v, h2.inv_v, hg, run_neq_bool w' t u v ht]
  · exact hok.elim
theorem val_un {R : Nat → Id → Prop} (o : Oper) (op : UnOp) (t : TypeId) (x : Operand) (ho : o.op = .unOp op t x) {gx : AV} (h1 : Sees G gx (a.eval x)) (hok : (vUn op gx).ok) : ValS P G R a o (vUn op gx) := by
  unfold vUn at hok ⊢
  split at hok
  · exact ValS.plain (.v _) rfl fun w' => by simp [execOp, ho, h1.inv_v, Op.unary]
  · exact ValS.plain (.v _) rfl fun w' => by simp [execOp, ho, h1.inv_v, Op.unary, Op.intArith]
  · exact hok.elim
theorem val_conv {R : Nat → Id → Prop} (o : Oper) (k : IntKind) (t u : TypeId) (x : Operand) (ho : o.op = .convert t u x) (hu : P.underlying u = some (.int k)) (ht : (P.underlying t).isSome = true) {gx : AV} (h1 : Sees G gx (a.eval x)) (hok : (vConv k gx).ok) : ValS P G R a o (vConv k gx) := by
  unfold vConv at hok ⊢
  obtain ⟨d, hd⟩ := Option.isSome_iff_exists.1 ht
  split at hok
  · exact ValS.plain (.v _) rfl fun w' => by simp [execOp, ho, h1.inv_v, convert, run_underlying hd, run_underlying hu, Conv.intToInt]
  · exact hok.elim
theorem val_same {R : Nat → Id → Prop} (o : Oper) (t u : TypeId) (x : Operand) (ho : o.op = .convert t u x) (hu : P.underlying u = some .string) (ht : P.underlying t = some .string) {gx : AV} (h1 : Sees G gx (a.eval x)) (hok : (vSame gx).ok) : ValS P G R a o (vSame gx) := by
  unfold vSame at hok ⊢
  split at hok
  · exact ValS.plain (.v _) rfl fun w' => by simp [execOp, ho, h1.inv_v, convert, run_underlying ht, run_underlying hu]
  · exact hok.elim
theorem val_faddr {R : Nat → Id → Prop} (o : Oper) (t : TypeId) (n off : Nat) (x : Operand) (ho : o.op = .fieldAddr t x n) (fs : Array Field) (f : Field) (hu : P.underlying t = some (.struct fs)) (hf : fs[n]? = some f) (hoff : f.offset = off) (i : TypeInfo) (hi : P.info? f.type = some i) (hz : i.size ≠ 0) {gx : AV} (h1 : Sees G gx (a.eval x)) (hok : (vFaddr off gx).ok) : ValS P G R a o (vFaddr off gx) := by
  have hrun : ∀ (b p : Nat) (w' : World), a.eval x = .pointer (some ⟨b, p, none⟩) → (execOp a.eval o).run P w' = .ok (.value (.pointer (some ⟨b, p + off, none⟩))) w' := fun b p w' he => by
    simp [execOp, ho, he, Instr.fieldAt, run_underlying hu, hf, Instr.sureAddr, fieldPlace, sizeOf, typeInfo, hi, hz, hoff, add_plain]
  unfold vFaddr at hok ⊢
  split at hok
  · rename_i i p
    obtain ⟨b, he, hb⟩ := h1.inv_box
    exact ValS.plain (.box _ _ b hb) rfl fun w' => by rw [← Nat.add_assoc]; exact hrun b _ w' he
  · rename_i cs
    obtain ⟨b, p, u, he, hc, hs, ho1⟩ := h1.inv_ro
    refine ValS.plain (.ro _ b (p + off) (fun j => u (off + j)) (fun j hj => ?_) (fun j c hj => ?_) (fun j hj => ho1 _ (by simp at hj; omega))) rfl fun w' => hrun b p w' he
    · rw [Nat.add_assoc]; exact hc _ (by simp at hj; omega)
    · rw [List.getElem?_drop] at hj; exact hs _ c hj
  · exact hok.elim
theorem val_iaddrA {R : Nat → Id → Prop} (o : Oper) (t e : TypeId) (n k : Nat) (x i : Operand) (ho : o.op = .indexAddr t x i) (hu : P.underlying t = some (.array n e)) (hk : (P.info? e).map (·.size) = some k) {gx gi : AV} (h1 : Sees G gx (a.eval x)) (h2 : Sees G gi (a.eval i)) (hok : (vIaddrA n k gx gi).ok) : ValS P G R a o (vIaddrA n k gx gi) := by
  unfold vIaddrA at hok ⊢
  split at hok
  · rename_i b off ik j
    obtain ⟨h0, hlt⟩ := hok
    obtain ⟨b', he, hb⟩ := h1.inv_box
    have hi2 := h2.inv_v
    have hsz : ∀ w', (sizeOf e).run P w' = .ok k w' := fun w' => by
      cases hi : P.info? e with
      | none => rw [hi] at hk; cases hk
      | some i => rw [hi] at hk; injection hk with hk; simp [sizeOf, typeInfo, hi, hk]
    exact ValS.plain (.box _ _ b' hb) rfl fun w' => by simp [execOp, ho, he, hi2, Instr.indexAt, asIntOf, run_underlying hu, hsz, Instr.sureAddr, add_plain, h0, hlt, Nat.add_assoc]
  · exact hok.elim
theorem val_iaddr {R : Nat → Id → Prop} (o : Oper) (t e : TypeId) (k : Nat) (x i : Operand) (ho : o.op = .indexAddr t x i) (hu : P.underlying t = some (.slice e)) (hk : (P.info? e).map (·.size) = some k) {gx gi : AV} (h1 : Sees G gx (a.eval x)) (h2 : Sees G gi (a.eval i)) (hok : (vIaddr k gx gi).ok) : ValS P G R a o (vIaddr k gx gi) := by
  unfold vIaddr at hok ⊢
  split at hok
  · rename_i k' es nul room ik n
    obtain ⟨rfl, h0, hlt⟩ := hok
    obtain ⟨m, rfl⟩ := Int.eq_ofNat_of_zero_le h0
    have hm : m < es.length := by omega
    have hi2 := h2.inv_v
    cases h1e : a.eval x with
    | slice a0 len cap =>
      rw [h1e] at h1
      cases h1 with
      | sl _ _ _ _ _ _ _ u hlen hn hk' hcap hmx hr hc hs ho1 =>
        obtain ⟨b, p, rfl, hcell⟩ := hc (by omega)
        have he : es[m]? = some (es.getD m []) := by rw [List.getD_eq_getElem?_getD, List.getElem?_eq_getElem hm]; rfl
        have hel : (es.getD m []).length = k' := hk' _ (List.mem_of_getElem? he)
        refine ValS.plain (v := .pointer (some ⟨b, p + m * k', none⟩)) (.ro _ b (p + m * k') (u m) (fun j hj => hcell m j hm (by rw [← hel]; exact hj)) (fun j c hj => hs m _ he j c hj) (fun j hj => ho1 m j hm (by rw [← hel]; exact hj))) rfl fun w' => ?_
        have hsz : (sizeOf e).run P w' = .ok k' w' := by
          cases hi : P.info? e with
          | none => rw [hi] at hk; cases hk
          | some i => rw [hi] at hk; injection hk with hk; simp [sizeOf, typeInfo, hi, hk]
        simp [execOp, ho, h1e, hi2, Instr.indexAt, asIntOf, run_underlying hu, hsz, add_plain, hlen, hm]
    | _ => rw [h1e] at h1; cases h1
  · rename_i bi p k' len ik n
    obtain ⟨rfl, h0, hlt⟩ := hok
    obtain ⟨m, rfl⟩ := Int.eq_ofNat_of_zero_le h0
    have hm : m < len := by omega
    have hi2 := h2.inv_v
    cases h1e : a.eval x with
    | slice a0 len2 cap =>
      rw [h1e] at h1
      cases h1 with
      | bsl _ _ _ _ b _ hb hcap hmx o2 ho2 =>
        have ho3 : o2 = G.base bi + p := by omega
        subst ho3
        refine ValS.plain (v := .pointer (some ⟨b, G.base bi + (p + m * k'), none⟩)) (.box _ _ b hb) rfl fun w' => ?_
        rw [← Nat.add_assoc]
        have hsz : (sizeOf e).run P w' = .ok k' w' := by
          cases hi : P.info? e with
          | none => rw [hi] at hk; cases hk
          | some i => rw [hi] at hk; injection hk with hk; simp [sizeOf, typeInfo, hi, hk]
        simp [execOp, ho, h1e, hi2, Instr.indexAt, asIntOf, run_underlying hu, hsz, add_plain, hm]
    | _ => rw [h1e] at h1; cases h1
  · exact hok.elim
theorem val_extract {R : Nat → Id → Prop} (o : Oper) (n : Nat) (x : Operand) (ho : o.op = .extract x n) {gx : AV} (h1 : Sees G gx (a.eval x)) (hok : (vExtract gx n).ok) : ValS P G R a o (vExtract gx n) := by
  unfold vExtract at hok ⊢
  split at hok
  · split at hok
    · rename_i vs c hc
      obtain ⟨us, he, hl, hs⟩ := h1.inv_tup
      have hlt : n < us.length := by rw [hl]; exact (List.getElem?_eq_some_iff.1 hc).1
      refine ValS.plain (hs n c hc).unown (AV.idOf_unown _) fun w' => ?_
      have : us.toArray[n]? = some (us.getD n undef) := by simp [List.getElem?_eq_getElem hlt]
      simp [execOp, ho, he, Instr.extract, this]
    · exact hok.elim
  · exact hok.elim
theorem val_fld1 {R : Nat → Id → Prop} (o : Oper) (t : TypeId) (n off : Nat) (x : Operand) (ho : o.op = .field t x n) (fs : Array Field) (f : Field) (hu : P.underlying t = some (.struct fs)) (hf : fs[n]? = some f) (hoff : f.offset = off) (d : TypeDesc) (hd : P.underlying f.type = some d) (hag : ∀ fs n e, d ≠ .struct fs ∧ d ≠ .array n e) {gx : AV} (h1 : Sees G gx (a.eval x)) (hok : (vFld 1 true off gx).ok) : ValS P G R a o (vFld 1 true off gx) := by
  unfold vFld at hok ⊢
  split at hok
  · rename_i cs _
    split at hok
    · rename_i c hc
      obtain ⟨us, he, hl, hs, _⟩ := h1.inv_agg
      have hlt : off < us.length := by rw [hl]; exact (List.getElem?_eq_some_iff.1 hc).1
      refine ValS.plain (hs off c hc).unown (AV.idOf_unown _) fun w' => ?_
      have hag' : (isAgg f.type).run P w' = .ok false w' := by
        simp only [isAgg, Sem.run_bind, run_underlying hd, Result.andThen_ok]
        cases d <;> first | rfl | exact absurd rfl (hag _ 0 0).1 | exact absurd rfl (hag #[] _ _).2
      have this : us[off]? = some us[off] := List.getElem?_eq_getElem hlt
      simp [execOp, ho, he, Instr.field, run_underlying hu, hf, asAgg, part, hag', hoff, this]
    · exact hok.elim
  · rename_i h; cases h
  · exact hok.elim
theorem val_fldN {R : Nat → Id → Prop} (o : Oper) (t : TypeId) (n off k : Nat) (x : Operand) (ho : o.op = .field t x n) (fs : Array Field) (f : Field) (hu : P.underlying t = some (.struct fs)) (hf : fs[n]? = some f) (hoff : f.offset = off) (d : TypeDesc) (hd : P.underlying f.type = some d) (hag : (∃ fs, d = .struct fs) ∨ ∃ n e, d = .array n e) (hn : (P.info? f.type).map (·.size) = some k) {gx : AV} (h1 : Sees G gx (a.eval x)) (hok : (vFld k false off gx).ok) : ValS P G R a o (vFld k false off gx) := by
  unfold vFld at hok ⊢
  split at hok
  · rename_i h; cases h
  · rename_i cs _
    have hok' : off + k ≤ cs.length := hok
    obtain ⟨us, he, hl, hs, h1'⟩ := h1.inv_agg
    have hs2 := ((SeesL.drop ⟨hl, hs⟩ off).take k).map_unown
    refine ValS.plain (v := .agg ((us.drop off).take k).toArray) (.agg _ _ hs2.1 hs2.2 (fun x hx => h1' x (List.mem_of_mem_drop (List.mem_of_mem_take hx)))) rfl fun w' => ?_
    have hag' : (isAgg f.type).run P w' = .ok true w' := by
      simp only [isAgg, Sem.run_bind, run_underlying hd, Result.andThen_ok]
      rcases hag with ⟨_, rfl⟩ | ⟨_, _, rfl⟩ <;> rfl
    have hsz : (sizeOf f.type).run P w' = .ok k w' := by
      cases hi : P.info? f.type with
      | none => rw [hi] at hn; cases hn
      | some i => rw [hi] at hn; injection hn with hn; simp [sizeOf, typeInfo, hi, hn]
    simp [execOp, ho, he, Instr.field, run_underlying hu, hf, asAgg, part, hag', hoff, hsz]
  · exact hok.elim
theorem val_lenS {R : Nat → Id → Prop} (o : Oper) (t : TypeId) (x : Operand) (ho : o.op = .call { callee := .builtin .len, args := #[x], argTypes := #[t] }) (ht : P.underlying t = some .string) {gx : AV} (h1 : Sees G gx (a.eval x)) (hok : (vLenS gx).ok) : ValS P G R a o (vLenS gx) := by
  unfold vLenS at hok ⊢
  split at hok
  · exact ValS.plain (.v _) rfl fun w' => by simp [execOp, ho, h1.inv_v, resolve, invoke, builtin, Builtin.len_, run_underlying ht, goInt]
  · exact hok.elim
theorem val_lenL {R : Nat → Id → Prop} (o : Oper) (t e : TypeId) (x : Operand) (ho : o.op = .call { callee := .builtin .len, args := #[x], argTypes := #[t] }) (ht : P.underlying t = some (.slice e)) {gx : AV} (h1 : Sees G gx (a.eval x)) (hok : (vLenL gx).ok) : ValS P G R a o (vLenL gx) := by
  unfold vLenL at hok ⊢
  split at hok
  · rename_i k es nul room
    refine ValS.plain (.v _) rfl fun w' => ?_
    cases h1e : a.eval x with
    | slice a0 len cap =>
      rw [h1e] at h1
      cases h1 with
      | sl _ _ _ _ _ _ _ u hlen => simp [execOp, ho, h1e, resolve, invoke, builtin, Builtin.len_, run_underlying ht, goInt, hlen]
    | _ => rw [h1e] at h1; cases h1
  · rename_i bi p k n
    refine ValS.plain (.v _) rfl fun w' => ?_
    cases h1e : a.eval x with
    | slice a0 len cap =>
      rw [h1e] at h1
      cases h1 with
      | bsl => simp [execOp, ho, h1e, resolve, invoke, builtin, Builtin.len_, run_underlying ht, goInt]
    | _ => rw [h1e] at h1; cases h1
  · exact hok.elim
end
end Go.Proofs.YtofkddajlgebjaaGreat.Ax
/- What an operation over values without memory says of the model's: literals, closures, cuts. No program is named here. -/
namespace Go.Proofs.YtofkddajlgebjaaGreat.Ax
open Go.RowKit Go By

section
variable {G : Ghost}
theorem foldl_set (c : Array Value) (off : Nat) : ∀ (l : List Value) (k : Nat) (cs : Array Value), ((l.zipIdx k).foldl (fun cs (p : Value × Nat) => cs.setIfInBounds (off + p.2) p.1) cs).toList = (List.foldl (fun (cs : List Value) (p : Value × Nat) => cs.set (off + p.2) p.1) cs.toList (l.zipIdx k))
  | [], k, cs => rfl
  | x :: l, k, cs => by
    simp only [List.zipIdx_cons, List.foldl_cons]
    rw [foldl_set c off l (k + 1)]
    simp
theorem sees_foldl (off : Nat) : ∀ (ls : List AV) (l : List Value) (k : Nat) (cs : List AV) (us : List Value), SeesL G ls l → SeesL G cs us → SeesL G (lay cs (off + k) ls) (List.foldl (fun (cs : List Value) (p : Value × Nat) => cs.set (off + p.2) p.1) us (l.zipIdx k))
  | [], [], k, cs, us, _, h => h
  | [], x :: l, k, cs, us, hl, _ => by have := hl.1; simp at this
  | a :: ls, [], k, cs, us, hl, _ => by have := hl.1; simp at this
  | a :: ls, x :: l, k, cs, us, hl, h => by
    obtain ⟨h1, h2⟩ := hl.tail
    simp only [List.zipIdx_cons, List.foldl_cons, lay]
    exact sees_foldl off ls l (k + 1) _ _ h2 (h.set _ h1)
theorem one_foldl (off : Nat) : ∀ (l : List Value) (k : Nat) (us : List Value), (∀ y ∈ l, y.oneCell' = true) → (∀ y ∈ us, y.oneCell' = true) → ∀ y ∈ List.foldl (fun (cs : List Value) (p : Value × Nat) => cs.set (off + p.2) p.1) us (l.zipIdx k), y.oneCell' = true
  | [], k, us, _, h => h
  | x :: l, k, us, hl, h => by
    simp only [List.zipIdx_cons, List.foldl_cons]
    refine one_foldl off l (k + 1) _ (fun y hy => hl y (List.mem_cons_of_mem _ hy)) fun y hy => ?_
    rcases List.mem_or_eq_of_mem_set hy with hy | rfl
    · exact h y hy
    · exact hl _ (List.mem_cons_self ..)
theorem fill_sees (place : Nat → Option (Nat × Nat)) : ∀ (ps : List (Nat × Value)) (xs : List (Nat × Nat × AV)) (cells : Array Value) (zs cs : List AV),
    (ps.length = xs.length ∧ ∀ (i : Nat) (p : Nat × Value) (x : Nat × Nat × AV), ps[i]? = some p → xs[i]? = some x → place p.1 = some (x.1, x.2.1) ∧ Sees G x.2.2 p.2) → SeesL G zs cells.toList → (∀ y ∈ cells.toList, y.oneCell' = true) → fillX zs xs = some cs →
    ∃ cells', Instr.fill place cells ps = some cells' ∧ SeesL G cs cells'.toList ∧ ∀ y ∈ cells'.toList, y.oneCell' = true
  | [], [], cells, zs, cs, _, hz, h1, hf => by
    simp [fillX] at hf; subst hf
    exact ⟨cells, rfl, hz, h1⟩
  | [], x :: xs, cells, zs, cs, h, _, _, _ => by have := h.1; simp at this
  | p :: ps, [], cells, zs, cs, h, _, _, _ => by have := h.1; simp at this
  | (i, v) :: ps, (off, size, a) :: xs, cells, zs, cs, h, hz, hone, hf => by
    obtain ⟨hp, hs⟩ := h.2 0 _ _ rfl rfl
    have hp' : place i = some (off, size) := hp
    have hs' : Sees G a v := hs
    unfold fillX at hf
    split at hf
    · rename_i l hl
      split at hf
      · rename_i hsz
        obtain ⟨hc, hc1⟩ := sees_cells hs' hl
        have hlen : v.cells.size = size := by have := hc.1; simp at this; omega
        have hcs : off + v.cells.size ≤ cells.size := by have := hz.1; simp at this; omega
        have hz2 : SeesL G (lay zs off (l.map AV.unown)) (v.cells.zipIdx.foldl (fun cs (p : Value × Nat) => cs.setIfInBounds (off + p.2) p.1) cells).toList ∧ ∀ y ∈ (v.cells.zipIdx.foldl (fun cs (p : Value × Nat) => cs.setIfInBounds (off + p.2) p.1) cells).toList, y.oneCell' = true := by
          have e : v.cells.zipIdx.foldl (fun cs (p : Value × Nat) => cs.setIfInBounds (off + p.2) p.1) cells = (v.cells.toList.zipIdx).foldl (fun cs (p : Value × Nat) => cs.setIfInBounds (off + p.2) p.1) cells := by
            rw [← Array.foldl_toList, Array.toList_zipIdx]
          rw [e, foldl_set #[] off]
          exact ⟨sees_foldl off (l.map AV.unown) v.cells.toList 0 zs cells.toList hc.map_unown hz, one_foldl off v.cells.toList 0 cells.toList hc1 hone⟩
        obtain ⟨cells', h1, h2⟩ := fill_sees place ps xs _ _ cs ⟨by have := h.1; simpa using this, fun i p x hpi hxi => h.2 (i + 1) p x (by simpa using hpi) (by simpa using hxi)⟩ hz2.1 hz2.2 hf
        refine ⟨cells', ?_, h2⟩
        simp only [Instr.fill, hp']
        rw [if_neg (by simp; omega)]
        exact h1
      · cases hf
    · cases hf
end

section
variable {P : Program} {C : Ctx} {N : Nat} {G : Ghost} {cls : Nat → Id} {s : St} {a : Act} {w : World}
/-- Parts, at their places. -/
def placed (fs : List (Nat × Nat)) (parts : List (Nat × Operand)) : Option (List (Nat × Nat × Operand)) := parts.mapM fun p => (fs[p.1]?).map fun q => (q.1, q.2, p.2)
theorem mapM_some {α β : Type} (f : α → Option β) : ∀ (l : List α) (r : List β), l.mapM f = some r → r.length = l.length ∧ ∀ (i : Nat) (x : α), l[i]? = some x → ∃ y, r[i]? = some y ∧ f x = some y
  | [], r, h => by simp at h; subst h; exact ⟨rfl, fun i x hx => by simp at hx⟩
  | x :: l, r, h => by
    simp only [List.mapM_cons, Option.bind_eq_bind, Option.pure_def] at h
    cases hx : f x with
    | none => rw [hx] at h; cases h
    | some y =>
      cases hr : l.mapM f with
      | none => rw [hx, hr] at h; cases h
      | some r' =>
        rw [hx, hr] at h
        simp at h
        subst h
        obtain ⟨h1, h2⟩ := mapM_some f l r' hr
        refine ⟨by simp [h1], fun i z hz => ?_⟩
        cases i with
        | zero => simp at hz; subst hz; exact ⟨y, rfl, hx⟩
        | succ i => simpa using h2 i z (by simpa using hz)
theorem val_build {R : Nat → Id → Prop} (o : Oper) (t : TypeId) (parts : Array (Nat × Operand)) (ho : o.op = .build t parts) (fs : Array Field) (hu : P.underlying t = some (.struct fs)) (it : TypeInfo) (hit : P.info? t = some it) (z : Value) (hz : it.zero = some z) (hz1 : z.cells.toList.all (·.oneCell') = true)
    (places : List (Nat × Nat)) (hpl : fs.toList.mapM (fun f => (P.info? f.type).map fun i => (f.offset, i.size)) = some places) (xs : List (Nat × Nat × Operand)) (hxs : placed places parts.toList = some xs)
    (g : Operand → AV) (hg : ∀ p ∈ parts.toList, Sees G (g p.2) (a.eval p.2)) (hok : (vBuild (z.cells.toList.map ofC1) (xs.map fun p => (p.1, p.2.1, g p.2.2))).ok) :
    ValS P G R a o (vBuild (z.cells.toList.map ofC1) (xs.map fun p => (p.1, p.2.1, g p.2.2))) := by
  unfold vBuild at hok ⊢
  split at hok
  · rename_i cs hcs
    obtain ⟨hlen, hat⟩ := mapM_some _ _ _ hxs
    obtain ⟨cells', h1, h2, h3⟩ := fill_sees (G := G) (places.toArray[·]?) (parts.toList.map fun p => (p.1, a.eval p.2)) _ z.cells _ cs ⟨by simp [hlen], fun i p x hp hx => by
      rw [List.getElem?_map] at hp hx
      cases hpi : parts.toList[i]? with
      | none => rw [hpi] at hp; cases hp
      | some q =>
        obtain ⟨y, hy, hf⟩ := hat i q hpi
        rw [hpi] at hp; rw [hy] at hx
        injection hp with hp; injection hx with hx
        subst hp hx
        cases hq : places[q.1]? with
        | none => rw [hq] at hf; cases hf
        | some pl =>
          rw [hq] at hf
          injection hf with hf
          subst hf
          exact ⟨by simp [hq], hg q (List.mem_of_getElem? hpi)⟩⟩ ⟨by simp, fun j c hc => by
      rw [List.getElem?_map] at hc
      cases hj : z.cells.toList[j]? with
      | none => rw [hj] at hc; cases hc
      | some y => rw [hj] at hc; injection hc with hc; subst hc; rw [List.getD_eq_getElem?_getD, hj]; exact sees_ofC1 y⟩ (fun y hy => List.all_eq_true.1 hz1 y hy) hcs
    refine ValS.plain (v := .agg cells') ?_ rfl fun w' => ?_
    · have := Sees.agg cs cells'.toList h2.1 h2.2 h3
      simpa using this
    · have hb : P.built t ((parts.map fun (i, x) => (i, a.eval x)).toList) = some cells' := by
        unfold Program.built
        simp only [hit, hu, hz, hpl]
        rw [Array.toList_map]
        exact h1
      simp only [execOp, ho, Sem.run_bind, run_build w' t _ _ hb, Result.andThen_ok, Sem.run_pure]
  · exact hok.elim
theorem val_mkfn {R : Nat → Id → Prop} (o : Oper) (f : Fn) (first cap : Array Operand) (ho : o.op = .makeFunc f first cap) (g : Operand → AV) (h1 : ∀ x ∈ first.toList, Sees G (g x) (a.eval x)) (h2 : ∀ x ∈ cap.toList, Sees G (g x) (a.eval x)) :
    ValS P G R a o (.of (.fn f (first.toList.map fun x => (g x).unown) (cap.toList.map fun x => (g x).unown))) := by
  have hl : ∀ (l : List Operand), (∀ x ∈ l, Sees G (g x) (a.eval x)) → SeesL G (l.map fun x => (g x).unown) (l.map a.eval) := by
    intro l
    induction l with
    | nil => exact fun _ => SeesL.nil
    | cons x l ih => exact fun h => (ih fun y hy => h y (List.mem_cons_of_mem _ hy)).cons (h x (List.mem_cons_self ..)).unown
  refine ValS.plain (v := .func f (first.map a.eval) (cap.map a.eval)) ?_ rfl fun w' => by simp [execOp, ho, Instr.makeFunc]
  have := Sees.fn f _ _ (first.toList.map a.eval) (cap.toList.map a.eval) (hl _ h1).1 (hl _ h2).1 (hl _ h1).2 (hl _ h2).2
  have e : ∀ l : Array Operand, l.map a.eval = (l.toList.map a.eval).toArray := fun l => by apply Array.ext'; simp
  rw [e, e]
  exact this
theorem val_nileq {R : Nat → Id → Prop} (o : Oper) (neg : Bool) (t e u : TypeId) (x : Operand) (ho : o.op = .binOp (bif neg then .neq else .eql) t x (.const (.slice none 0 0)) u) (ht : P.underlying t = some (.slice e)) {gx : AV} (h1 : Sees G gx (a.eval x)) (hok : (vNilEq neg gx).ok) : ValS P G R a o (vNilEq neg gx) := by
  unfold vNilEq at hok ⊢
  split at hok
  · rename_i k es b room
    cases h1e : a.eval x with
    | slice a0 len cap =>
      rw [h1e] at h1
      cases h1 with
      | sl _ _ _ _ _ _ _ uu hlen hn =>
        have hb : a0.isNone = b := by
          cases b with
          | true => rw [hn.2.1 rfl]; rfl
          | false => cases a0 with
            | none => exact absurd rfl (hn.2.2 rfl)
            | some _ => rfl
        refine ValS.plain (.v _) rfl fun w' => ?_
        have hg : ∀ op, (eqGuard op t x (.const (.slice none 0 0)) (.slice a0 len cap) (.slice none 0 0)).run P w' = .ok () w' := fun op => by cases op <;> rfl
        have he := run_equal_slice_nil (P := P) w' t e a0 len cap ht
        have ec : a.eval (.const (.slice none 0 0)) = .slice none 0 0 := rfl
        cases neg
        · simp only [execOp, ho, h1e, ec, cond_false, Sem.run_bind, hg, Result.andThen_ok, binOp, he, Sem.run_pure, hb]
        · simp only [execOp, ho, h1e, ec, cond_true, Sem.run_bind, hg, Result.andThen_ok, binOp, he, Sem.run_pure, hb]
    | _ => rw [h1e] at h1; cases h1
  · rename_i bi p k n
    cases h1e : a.eval x with
    | slice a0 len cap =>
      rw [h1e] at h1
      cases h1 with
      | bsl _ _ _ _ b _ hbx hcap hm o2 ho2 =>
        refine ValS.plain (.v _) rfl fun w' => ?_
        have hg : ∀ op, (eqGuard op t x (.const (.slice none 0 0)) (.slice (some ⟨b, o2, none⟩) n cap) (.slice none 0 0)).run P w' = .ok () w' := fun op => by cases op <;> rfl
        have he := run_equal_slice_nil (P := P) w' t e (some ⟨b, o2, none⟩) n cap ht
        have ec : a.eval (.const (.slice none 0 0)) = .slice none 0 0 := rfl
        cases neg
        · simp only [execOp, ho, h1e, ec, cond_false, Sem.run_bind, hg, Result.andThen_ok, binOp, he, Sem.run_pure]; rfl
        · simp only [execOp, ho, h1e, ec, cond_true, Sem.run_bind, hg, Result.andThen_ok, binOp, he, Sem.run_pure]; rfl
    | _ => rw [h1e] at h1; cases h1
  · exact hok.elim
theorem run_max2 : ∀ (l : List Int) (x : Int) (w' : World), ((l.map (Value.int .i64)).foldlM Builtin.max2 (.int .i64 x)).run P w' = .ok (.int .i64 (l.foldl (fun m y => if y > m then y else m) x)) w'
  | [], x, w' => rfl
  | y :: l, x, w' => by
    simp only [List.map_cons, List.foldlM_cons, List.foldl_cons, Sem.run_bind]
    rw [show (Builtin.max2 (.int .i64 x) (.int .i64 y)).run P w' = .ok (.int .i64 (if y > x then y else x)) w' from rfl]
    exact run_max2 l _ w'
theorem val_max {R : Nat → Id → Prop} (o : Oper) (ts : Array TypeId) (xs : Array Operand) (ho : o.op = .call { callee := .builtin .max, args := xs, argTypes := ts }) (g : Operand → AV) (h1 : ∀ x ∈ xs.toList, Sees G (g x) (a.eval x)) (hok : (vMax (xs.toList.mapM fun x => int64V (g x))).ok) :
    ValS P G R a o (vMax (xs.toList.mapM fun x => int64V (g x))) := by
  unfold vMax at hok ⊢
  split at hok
  · rename_i n hn
    cases hl : xs.toList.mapM fun x => int64V (g x) with
    | none => rw [hl] at hn; cases hn
    | some l =>
      rw [hl] at hn
      have hn' : maxL l = some n := hn
      have hev : xs.toList.map a.eval = l.map (Value.int .i64) := by
        obtain ⟨h2, h3⟩ := mapM_some _ _ _ hl
        apply List.ext_getElem?
        intro i
        rw [List.getElem?_map, List.getElem?_map]
        cases hi : xs.toList[i]? with
        | none =>
          have : l[i]? = none := by rw [List.getElem?_eq_none_iff] at hi ⊢; omega
          rw [this]; rfl
        | some x =>
          obtain ⟨y, hy, hf⟩ := h3 i x hi
          rw [hy]
          have hx := h1 x (List.mem_of_getElem? hi)
          show some (a.eval x) = some (Value.int .i64 y)
          unfold int64V at hf
          split at hf
          · rename_i m hm
            injection hf with hf
            subst hf
            rw [hm] at hx
            rw [hx.inv_v]
          · cases hf
      refine ValS.plain (.v _) rfl fun w' => ?_
      have hr : (Builtin.max_ ts o.type (xs.map a.eval)).run P w' = .ok (.int .i64 n) w' := by
        cases l with
        | nil => simp [maxL] at hn'
        | cons x l =>
          have hn2 : l.foldl (fun m y => if y > m then y else m) x = n := by simpa [maxL] using hn'
          rw [List.map_cons] at hev
          simp only [Builtin.max_, Array.toList_map, hev, run_max2, hn2]
      simp [execOp, ho, resolve, invoke, builtin, hr]
  · exact hok.elim
theorem run_min2 : ∀ (l : List Int) (x : Int) (w' : World), ((l.map (Value.int .i64)).foldlM Builtin.min2 (.int .i64 x)).run P w' = .ok (.int .i64 (l.foldl (fun m y => if y < m then y else m) x)) w'
  | [], x, w' => rfl
  | y :: l, x, w' => by
    simp only [List.map_cons, List.foldlM_cons, List.foldl_cons, Sem.run_bind]
    rw [show (Builtin.min2 (.int .i64 x) (.int .i64 y)).run P w' = .ok (.int .i64 (if y < x then y else x)) w' from rfl]
    exact run_min2 l _ w'
theorem val_min {R : Nat → Id → Prop} (o : Oper) (ts : Array TypeId) (xs : Array Operand) (ho : o.op = .call { callee := .builtin .min, args := xs, argTypes := ts }) (g : Operand → AV) (h1 : ∀ x ∈ xs.toList, Sees G (g x) (a.eval x)) (hok : (vMin (xs.toList.mapM fun x => int64V (g x))).ok) :
    ValS P G R a o (vMin (xs.toList.mapM fun x => int64V (g x))) := by
  unfold vMin at hok ⊢
  split at hok
  · rename_i n hn
    cases hl : xs.toList.mapM fun x => int64V (g x) with
    | none => rw [hl] at hn; cases hn
    | some l =>
      rw [hl] at hn
      have hn' : minL l = some n := hn
      have hev : xs.toList.map a.eval = l.map (Value.int .i64) := by
        obtain ⟨h2, h3⟩ := mapM_some _ _ _ hl
        apply List.ext_getElem?
        intro i
        rw [List.getElem?_map, List.getElem?_map]
        cases hi : xs.toList[i]? with
        | none =>
          have : l[i]? = none := by rw [List.getElem?_eq_none_iff] at hi ⊢; omega
          rw [this]; rfl
        | some x =>
          obtain ⟨y, hy, hf⟩ := h3 i x hi
          rw [hy]
          have hx := h1 x (List.mem_of_getElem? hi)
          show some (a.eval x) = some (Value.int .i64 y)
          unfold int64V at hf
          split at hf
          · rename_i m hm
            injection hf with hf
            subst hf
            rw [hm] at hx
            rw [hx.inv_v]
          · cases hf
      refine ValS.plain (.v _) rfl fun w' => ?_
      have hr : (Builtin.min_ ts o.type (xs.map a.eval)).run P w' = .ok (.int .i64 n) w' := by
        cases l with
        | nil => simp [minL] at hn'
        | cons x l =>
          have hn2 : l.foldl (fun m y => if y < m then y else m) x = n := by simpa [minL] using hn'
          rw [List.map_cons] at hev
          simp only [Builtin.min_, Array.toList_map, hev, run_min2, hn2]
      simp [execOp, ho, resolve, invoke, builtin, hr]
  · exact hok.elim
/-- Cuts. -/
theorem run_sliceOf {t e : TypeId} {k : Nat} (ht : P.underlying t = some (.slice e)) (hk : (P.info? e).map (·.size) = some k) (a0 : Option Addr) (len cap : Nat) (lo hi mx : Option Value) (l h m : Nat) (w' : World)
    (hb : (Instr.sliceBounds true len cap lo hi mx).run P w' = .ok (l, h, m) w') : (Instr.sliceAt t (.slice a0 len cap) lo hi mx).run P w' = .ok (sliced a0 l h m k) w' := by
  have hsz : (sizeOf e).run P w' = .ok k w' := by
    cases hi : P.info? e with
    | none => rw [hi] at hk; cases hk
    | some i => rw [hi] at hk; injection hk with hk; simp [sizeOf, typeInfo, hi, hk]
  simp [Instr.sliceAt, Instr.slice, run_underlying ht, hb, hsz, sliced]
theorem sees_sliced {k k' : Nat} {es : List (List AV)} {nul : Option Bool} {room room' : Room} {a0 : Option Addr} {len cap l h m : Nat} (hs : Sees G (.sl k' es nul room) (.slice a0 len cap)) (hk : k' = k ∨ es = []) (hl : l ≤ h) (hh : h ≤ es.length) (hm : h ≤ m) (hmc : m ≤ cap) (hr : room' = .exact → m = h) :
    Sees G (.sl k ((es.take h).drop l) nul room') (sliced a0 l h m k) := by
  cases hs with
  | sl _ _ _ _ _ _ _ u hlen hn hkk hcap hmx hr0 hc hs ho1 =>
    have hlen2 : ((es.take h).drop l).length = h - l := by simp; omega
    unfold sliced
    refine .sl k _ nul room' _ _ _ (fun i j => u (l + i) j) hlen2.symm ⟨fun hh => ?_, fun hh => ?_, fun hh => ?_⟩ (fun e he => ?_) (by omega) (by omega) (fun hh => by have := hr hh; omega) (fun hp => ?_) (fun i e he j c hj => ?_) (fun i j hi hj => ?_)
    · have : a0 = none := by
        cases a0 with
        | none => rfl
        | some x => split at hh <;> simp at hh
      have := hn.1 this
      omega
    · rw [hn.2.1 hh]; split <;> rfl
    · have := hn.2.2 hh
      cases a0 with
      | none => exact absurd rfl this
      | some x => split <;> simp
    · have hm2 : e ∈ es := List.mem_of_mem_take (List.mem_of_mem_drop he)
      rcases hk with hk | hk
      · rw [← hk]; exact hkk e hm2
      · rw [hk] at hm2; cases hm2
    · rw [hlen2] at hp
      obtain ⟨b, p, rfl, hcell⟩ := hc (by omega)
      have hk2 : k' = k := by
        rcases hk with hk | hk
        · exact hk
        · rw [hk] at hh; simp at hh; omega
      subst hk2
      refine ⟨b, p + l * k', ?_, fun i j hi hj => ?_⟩
      · rw [if_neg (by omega), Option.map_some, add_plain]
      · rw [hlen2] at hi
        rw [← hcell (l + i) j (by omega) hj, Nat.add_mul]
        congr 1
        omega
    · rw [List.getElem?_drop, List.getElem?_take] at he
      split at he
      · exact hs _ e he j c hj
      · cases he
    · rw [hlen2] at hi
      rcases hk with hk | hk
      · exact ho1 _ j (by omega) (by omega)
      · rw [hk] at hh; simp at hh; omega
theorem bound_run {len cap l h : Nat} {kl kh : IntKind} (lo hi : Option Value) (hlo : lo = some (.int kl l) ∨ (lo = none ∧ l = 0)) (hhi : hi = some (.int kh h) ∨ (hi = none ∧ h = len)) (h1 : l ≤ h) (h2 : h ≤ cap) (w' : World) :
    (Instr.sliceBounds true len cap lo hi none).run P w' = .ok (l, h, cap) w' := by
  have e1 : ∀ (k : IntKind) (x y : Nat) (c : BoundsCode), x ≤ y → (Instr.sliceBound (.int k x) y c).run P w' = .ok x w' := fun k x y c hxy => by
    have := run_sliceBound (P := P) w' k (x : Int) y c (by omega) (by omega)
    simpa using this
  rcases hlo with rfl | ⟨rfl, rfl⟩ <;> rcases hhi with rfl | ⟨rfl, rfl⟩ <;> simp [Instr.sliceBounds, e1, h1, h2]
theorem bound_run3 {len cap l h : Nat} {kl kh km : IntKind} (lo hi : Option Value) (hlo : lo = some (.int kl l) ∨ (lo = none ∧ l = 0)) (hhi : hi = some (.int kh h)) (h1 : l ≤ h) (h2 : h ≤ cap) (w' : World) :
    (Instr.sliceBounds true len cap lo hi (some (.int km h))).run P w' = .ok (l, h, h) w' := by
  have e1 : ∀ (k : IntKind) (x y : Nat) (c : BoundsCode), x ≤ y → (Instr.sliceBound (.int k x) y c).run P w' = .ok x w' := fun k x y c hxy => by
    have := run_sliceBound (P := P) w' k (x : Int) y c (by omega) (by omega)
    simpa using this
  subst hhi
  rcases hlo with rfl | ⟨rfl, rfl⟩ <;> simp [Instr.sliceBounds, e1, h1, h2]
theorem intOfV_eval {g : AV} {u : Value} {n : Int} (h : Sees G g u) (hn : intOfV g = some n) : ∃ k, u = .int k n := by
  unfold intOfV at hn
  split at hn
  · injection hn with hn; subst hn; exact ⟨_, h.inv_v⟩
  · cases hn
theorem cut_spec {len : Int} {lo hi : Option Operand} {l h : Int} (hc : cutAt s len lo hi = some (l, h)) (hg : ∀ x, (lo = some x ∨ hi = some x) → Sees G (s.get x) (a.eval x)) :
    ((∃ k, lo.map a.eval = some (.int k l)) ∨ (lo = none ∧ l = 0)) ∧ ((∃ k, hi.map a.eval = some (.int k h)) ∨ (hi = none ∧ h = len)) := by
  unfold cutAt at hc
  split at hc
  · rename_i l' h' h1 h2
    injection hc with hc
    injection hc with e1 e2
    subst e1 e2
    constructor
    · cases lo with
      | none => right; simp at h1; exact ⟨rfl, h1.symm⟩
      | some x => left; obtain ⟨k, hk⟩ := intOfV_eval (hg x (.inl rfl)) h1; exact ⟨k, by simp [hk]⟩
    · cases hi with
      | none => right; simp at h2; exact ⟨rfl, h2.symm⟩
      | some x => left; obtain ⟨k, hk⟩ := intOfV_eval (hg x (.inr rfl)) h2; exact ⟨k, by simp [hk]⟩
  · cases hc
theorem bound_runS {len l h : Nat} {kl kh : IntKind} (lo hi : Option Value) (hlo : lo = some (.int kl l) ∨ (lo = none ∧ l = 0)) (hhi : hi = some (.int kh h) ∨ (hi = none ∧ h = len)) (h1 : l ≤ h) (h2 : h ≤ len) (w' : World) :
    (Instr.sliceBounds false len len lo hi none).run P w' = .ok (l, h, len) w' := by
  have e1 : ∀ (k : IntKind) (x y : Nat) (c : BoundsCode), x ≤ y → (Instr.sliceBound (.int k x) y c).run P w' = .ok x w' := fun k x y c hxy => by
    have := run_sliceBound (P := P) w' k (x : Int) y c (by omega) (by omega)
    simpa using this
  rcases hlo with rfl | ⟨rfl, rfl⟩ <;> rcases hhi with rfl | ⟨rfl, rfl⟩ <;> simp [Instr.sliceBounds, e1, h1, h2]
theorem val_sliceS {R : Nat → Id → Prop} (o : Oper) (t : TypeId) (x : Operand) (lo hi : Option Operand) (ho : o.op = .slice t x lo hi none) (ht : P.underlying t = some .string)
    (h1 : Sees G (s.get x) (a.eval x)) (hg : ∀ y, (lo = some y ∨ hi = some y) → Sees G (s.get y) (a.eval y)) (hok : (xval s (.sliceS x lo hi)).ok) : ValS P G R a o (xval s (.sliceS x lo hi)) := by
  have hx : xval s (.sliceS x lo hi) = vSliceS (s.get x) (cutAt s · lo hi) := rfl
  rw [hx] at hok ⊢
  unfold vSliceS at hok ⊢
  split at hok
  · rename_i b hgx
    rw [hgx] at h1
    have h1e := h1.inv_v
    split at hok
    · rename_i l h hcut
      obtain ⟨hlo, hhi⟩ := cut_spec (a := a) hcut hg
      obtain ⟨h0, hlh, hhl⟩ := hok
      obtain ⟨l', rfl⟩ := Int.eq_ofNat_of_zero_le h0
      obtain ⟨h', rfl⟩ := Int.eq_ofNat_of_zero_le (Int.le_trans h0 hlh)
      refine ValS.plain (v := .string (b.extract l' h')) (.v _) rfl fun w' => ?_
      have hb : (Instr.sliceBounds false b.size b.size (lo.map a.eval) (hi.map a.eval) none).run P w' = .ok (l', h', b.size) w' := by
        rcases hlo with ⟨kl, hlo⟩ | ⟨rfl, hl0⟩ <;> rcases hhi with ⟨kh, hhi⟩ | ⟨rfl, hh0⟩
        · exact bound_runS (kl := kl) (kh := kh) _ _ (.inl hlo) (.inl hhi) (by omega) (by omega) w'
        · exact bound_runS (kl := kl) (kh := kl) _ _ (.inl hlo) (.inr ⟨rfl, by omega⟩) (by omega) (by omega) w'
        · exact bound_runS (kl := kh) (kh := kh) _ _ (.inr ⟨rfl, by omega⟩) (.inl hhi) (by omega) (by omega) w'
        · exact bound_runS (kl := .i64) (kh := .i64) _ _ (.inr ⟨rfl, by omega⟩) (.inr ⟨rfl, by omega⟩) (by omega) (by omega) w'
      have hs : (Instr.sliceAt t (.string b) (lo.map a.eval) (hi.map a.eval) none).run P w' = .ok (.string (b.extract l' h')) w' := by
        simp [Instr.sliceAt, Instr.slice, run_underlying ht, hb]
      simp only [execOp, ho, h1e, Option.map_none, Sem.run_bind, hs, Result.andThen_ok, Sem.run_pure]
    · exact hok.elim
  · exact hok.elim
theorem own_sliced {R : Nat → Id → Prop} {k : Nat} {es es2 : List (List AV)} {nul nul2 : Option Bool} {c : Id} {a0 : Option Addr} {len cap l : Nat} (hnew : c.isNew = false) (h : OwnAt G R (.sl k es nul (.own c)) (.slice a0 len cap)) (hl : l ≤ len) (hc : len ≤ cap) :
    OwnAt G R (.sl k es2 nul2 (.own c)) (sliced a0 l len cap k) := by
  unfold sliced
  rcases h with ⟨h1, h2⟩ | ⟨b, o, B, h1, h2, h3, h4, h5⟩
  · subst h1
    exact .inl ⟨rfl, fun hn => by rw [hnew] at hn; cases hn⟩
  · subst h1
    by_cases hcl : cap = l
    · exact .inl ⟨by omega, fun hn => by rw [hnew] at hn; cases hn⟩
    · have e1 : len * k = l * k + (len - l) * k := by rw [← Nat.add_mul]; congr 1; omega
      have e2 : cap * k = l * k + (cap - l) * k := by rw [← Nat.add_mul]; congr 1; omega
      refine .inr ⟨b, o + l * k, B, ?_, h2, by omega, by omega, h5⟩
      rw [if_neg hcl]
      show some ((⟨b, o, none⟩ : Addr).add (l * k)) = _
      rw [add_plain]
theorem val_slice {R : Nat → Id → Prop} (o : Oper) (t e : TypeId) (k : Nat) (x : Operand) (lo hi mx : Option Operand) (ho : o.op = .slice t x lo hi mx) (ht : P.underlying t = some (.slice e)) (hk : (P.info? e).map (·.size) = some k) (hmx : mx.isSome = true → hi.isSome = true)
    (h1 : Sees G (s.get x) (a.eval x)) (hown : OwnAt G R (s.get x) (a.eval x)) (hg : ∀ y, (lo = some y ∨ hi = some y ∨ mx = some y) → Sees G (s.get y) (a.eval y)) (hok : (xval s (.slice k x lo hi mx)).ok) : ValS P G R a o (xval s (.slice k x lo hi mx)) := by
  have hx : xval s (.slice k x lo hi mx) = vSlice k (s.get x) (cutAt s · lo hi) (mx.map fun m => intOfV (s.get m)) (hi.isNone && mx.isNone) := rfl
  rw [hx] at hok ⊢
  unfold vSlice at hok ⊢
  split at hok
  · rename_i k' es nul room hgx
    rw [hgx] at h1 hown
    cases h1e : a.eval x with
    | slice a0 len cap =>
      rw [h1e] at h1 hown
      have hlen : len = es.length ∧ len ≤ cap := by cases h1 with | sl _ _ _ _ _ _ _ u hlen hn hkk hcap => exact ⟨hlen, hcap⟩
      split at hok
      · rename_i l h hcut
        obtain ⟨hlo, hhi⟩ := cut_spec (a := a) hcut fun y hy => hg y (by rcases hy with hy | hy; exact .inl hy; exact .inr (.inl hy))
        split at hok
        · rename_i hm
          obtain ⟨hk2, h0, hlh, hhl⟩ := hok
          obtain ⟨l', rfl⟩ := Int.eq_ofNat_of_zero_le h0
          obtain ⟨h', rfl⟩ := Int.eq_ofNat_of_zero_le (Int.le_trans h0 hlh)
          have hmn : mx = none := by cases mx with | none => rfl | some m => simp at hm
          subst hmn
          have hke : k' = k ∨ es = [] := hk2.imp id And.left
          have hrun : ∀ w', (execOp a.eval o).run P w' = .ok (.value (sliced a0 l' h' cap k)) w' := fun w' => by
            have hb : (Instr.sliceBounds true len cap (lo.map a.eval) (hi.map a.eval) none).run P w' = .ok (l', h', cap) w' := by
              rcases hlo with ⟨kl, hlo⟩ | ⟨rfl, hl0⟩ <;> rcases hhi with ⟨kh, hhi⟩ | ⟨rfl, hh0⟩
              · exact bound_run (kl := kl) (kh := kh) _ _ (.inl hlo) (.inl hhi) (by omega) (by omega) w'
              · exact bound_run (kl := kl) (kh := kl) _ _ (.inl hlo) (.inr ⟨rfl, by omega⟩) (by omega) (by omega) w'
              · exact bound_run (kl := kh) (kh := kh) _ _ (.inr ⟨rfl, by omega⟩) (.inl hhi) (by omega) (by omega) w'
              · exact bound_run (kl := .i64) (kh := .i64) _ _ (.inr ⟨rfl, by omega⟩) (.inr ⟨rfl, by omega⟩) (by omega) (by omega) w'
            simp only [execOp, ho, h1e, Option.map_none, Sem.run_bind, run_sliceOf ht hk a0 len cap _ _ _ l' h' cap w' hb, Result.andThen_ok, Sem.run_pure]
          cases hco : cutOwn (hi.isNone && (none : Option Operand).isNone) room with
          | false =>
            rw [cutRoom_no hco]
            have hss := sees_sliced (G := G) (room' := .no) (m := cap) h1 hke (show l' ≤ h' by omega) (by omega) (show h' ≤ cap by omega) (Nat.le_refl _) (fun h => by cases h)
            refine ValS.plain (v := sliced a0 l' h' cap k) ?_ rfl hrun
            simpa using hss
          | true =>
            obtain ⟨htl, c, hrc, hnew, e⟩ := cutRoom_own hco
            rw [e]
            subst hrc
            have hkk : k' = k := hk2.resolve_right fun hh => by rw [hco] at hh; cases hh.2
            subst hkk
            have hhn : hi = none := by cases hi with | none => rfl | some z => simp at htl
            have hh' : h' = len := by
              rcases hhi with ⟨kh, hhi⟩ | ⟨_, hh0⟩
              · rw [hhn] at hhi; cases hhi
              · omega
            have hss := sees_sliced (G := G) (room' := .own c) (m := cap) h1 hke (show l' ≤ h' by omega) (by omega) (show h' ≤ cap by omega) (Nat.le_refl _) (fun h => by cases h)
            refine ⟨sliced a0 l' h' cap k', by simpa using hss, ?_, (fun h => by cases h), fun _ w' _ _ _ => hrun w'⟩
            subst hh'
            exact own_sliced hnew hown (by omega) hlen.2
        · rename_i m hm
          obtain ⟨hk2, h0, hlh, hhm, hhl⟩ := hok
          subst hhm
          obtain ⟨l', rfl⟩ := Int.eq_ofNat_of_zero_le h0
          obtain ⟨h', rfl⟩ := Int.eq_ofNat_of_zero_le (Int.le_trans h0 hlh)
          obtain ⟨mo, rfl⟩ : ∃ mo, mx = some mo := by cases mx with | none => simp at hm | some m => exact ⟨m, rfl⟩
          obtain ⟨km, hkm⟩ := intOfV_eval (hg mo (.inr (.inr rfl))) (by simpa using hm)
          have hss := sees_sliced (G := G) (room' := .exact) (m := h') h1 hk2 (show l' ≤ h' by omega) (by omega) (Nat.le_refl _) (by omega) (fun _ => rfl)
          refine ValS.plain (v := sliced a0 l' h' h' k) ?_ rfl fun w' => ?_
          · simpa using hss
          · have hb : (Instr.sliceBounds true len cap (lo.map a.eval) (hi.map a.eval) (some (.int km h'))).run P w' = .ok (l', h', h') w' := by
              rcases hhi with ⟨kh, hhi⟩ | ⟨rfl, _⟩
              · rcases hlo with ⟨kl, hlo⟩ | ⟨rfl, hl0⟩
                · exact bound_run3 (kl := kl) (kh := kh) _ _ (.inl hlo) hhi (by omega) (by omega) w'
                · exact bound_run3 (kl := kh) (kh := kh) _ _ (.inr ⟨rfl, by omega⟩) hhi (by omega) (by omega) w'
              · have := hmx rfl; cases this
            simp only [execOp, ho, h1e, Option.map_some, hkm, Sem.run_bind, run_sliceOf ht hk a0 len cap _ _ _ l' h' h' w' hb, Result.andThen_ok, Sem.run_pure]
        · exact hok.elim
      · exact hok.elim
    | _ => rw [h1e] at h1; cases h1
  · rename_i i off k' n hgx
    rw [hgx] at h1
    cases h1e : a.eval x with
    | slice a0 len cap =>
      rw [h1e] at h1
      cases h1 with
      | bsl _ _ _ _ b _ hb hcap hm o2 ho2 =>
        have hss : ∀ (l' h' m' : Nat), l' ≤ h' → h' ≤ n → h' ≤ m' → m' ≤ cap → Sees G (.bsl i (off + (l' : Int).toNat * k') k' ((h' : Int) - (l' : Int)).toNat) (sliced (some ⟨b, o2, none⟩) l' h' m' k') := fun l' h' m' q1 q2 q3 q4 => by
          unfold sliced
          have e2 : ((h' : Int) - (l' : Int)).toNat = h' - l' := by omega
          rw [e2, Int.toNat_natCast]
          have h4 : cap * k' = l' * k' + (m' - l') * k' + (cap - m') * k' := by rw [← Nat.add_mul, ← Nat.add_mul]; congr 1; omega
          have h5 := hm.2
          split
          · exact .bsl _ _ _ _ b _ hb (by omega) ⟨by omega, by omega⟩ o2 (.inl (by omega))
          · have e3 : o2 = G.base i + off := by omega
            subst e3
            show Sees G _ (.slice (some ((⟨b, G.base i + off, none⟩ : Addr).add (l' * k'))) _ _)
            rw [add_plain]
            exact .bsl _ _ _ _ b _ hb (by omega) ⟨by omega, by omega⟩ _ (.inr (by omega))
        split at hok
        · rename_i l h hcut
          obtain ⟨hlo, hhi⟩ := cut_spec (a := a) hcut fun y hy => hg y (by rcases hy with hy | hy; exact .inl hy; exact .inr (.inl hy))
          split at hok
          · rename_i hmm
            obtain ⟨hk2, h0, hlh, hhl⟩ := hok
            subst hk2
            obtain ⟨l', rfl⟩ := Int.eq_ofNat_of_zero_le h0
            obtain ⟨h', rfl⟩ := Int.eq_ofNat_of_zero_le (Int.le_trans h0 hlh)
            have hmn : mx = none := by cases mx with | none => rfl | some m => simp at hmm
            subst hmn
            refine ValS.plain (v := sliced (some ⟨b, o2, none⟩) l' h' cap k') (hss l' h' cap (by omega) (by omega) (by omega) (Nat.le_refl _)) rfl fun w' => ?_
            have hb : (Instr.sliceBounds true n cap (lo.map a.eval) (hi.map a.eval) none).run P w' = .ok (l', h', cap) w' := by
              rcases hlo with ⟨kl, hlo⟩ | ⟨rfl, hl0⟩ <;> rcases hhi with ⟨kh, hhi⟩ | ⟨rfl, hh0⟩
              · exact bound_run (kl := kl) (kh := kh) _ _ (.inl hlo) (.inl hhi) (by omega) (by omega) w'
              · exact bound_run (kl := kl) (kh := kl) _ _ (.inl hlo) (.inr ⟨rfl, by omega⟩) (by omega) (by omega) w'
              · exact bound_run (kl := kh) (kh := kh) _ _ (.inr ⟨rfl, by omega⟩) (.inl hhi) (by omega) (by omega) w'
              · exact bound_run (kl := .i64) (kh := .i64) _ _ (.inr ⟨rfl, by omega⟩) (.inr ⟨rfl, by omega⟩) (by omega) (by omega) w'
            simp only [execOp, ho, h1e, Option.map_none, Sem.run_bind, run_sliceOf ht hk (some ⟨b, o2, none⟩) n cap _ _ _ l' h' cap w' hb, Result.andThen_ok, Sem.run_pure]
          · rename_i m hmm
            obtain ⟨hk2, h0, hlh, hhm, hhl⟩ := hok
            subst hk2 hhm
            obtain ⟨l', rfl⟩ := Int.eq_ofNat_of_zero_le h0
            obtain ⟨h', rfl⟩ := Int.eq_ofNat_of_zero_le (Int.le_trans h0 hlh)
            obtain ⟨mo, rfl⟩ : ∃ mo, mx = some mo := by cases mx with | none => simp at hmm | some m => exact ⟨m, rfl⟩
            obtain ⟨km, hkm⟩ := intOfV_eval (hg mo (.inr (.inr rfl))) (by simpa using hmm)
            refine ValS.plain (v := sliced (some ⟨b, o2, none⟩) l' h' h' k') (hss l' h' h' (by omega) (by omega) (Nat.le_refl _) (by omega)) rfl fun w' => ?_
            have hb : (Instr.sliceBounds true n cap (lo.map a.eval) (hi.map a.eval) (some (.int km h'))).run P w' = .ok (l', h', h') w' := by
              rcases hhi with ⟨kh, hhi⟩ | ⟨rfl, _⟩
              · rcases hlo with ⟨kl, hlo⟩ | ⟨rfl, hl0⟩
                · exact bound_run3 (kl := kl) (kh := kh) _ _ (.inl hlo) hhi (by omega) (by omega) w'
                · exact bound_run3 (kl := kh) (kh := kh) _ _ (.inr ⟨rfl, by omega⟩) hhi (by omega) (by omega) w'
              · have := hmx rfl; cases this
            simp only [execOp, ho, h1e, Option.map_some, hkm, Sem.run_bind, run_sliceOf ht hk (some ⟨b, o2, none⟩) n cap _ _ _ l' h' h' w' hb, Result.andThen_ok, Sem.run_pure]
          · exact hok.elim
        · exact hok.elim
    | _ => rw [h1e] at h1; cases h1
  · exact hok.elim
end
end Go.Proofs.YtofkddajlgebjaaGreat.Ax
/- How what is known of memory changes: slots that are written, new variables, new slices, variables that are written, slices that grow. No program is named here. -/
namespace Go.Proofs.YtofkddajlgebjaaGreat.Ax
open Go.RowKit Go By

theorem find_drop_same (d : Nat) : ∀ l : List (Nat × AV), find (drop d l) d = none
  | [] => rfl
  | (k, a) :: r => by
    unfold drop
    split
    · exact find_drop_same d r
    · rename_i h; simp [find, h, find_drop_same d r]
theorem find_drop_ne (d t : Nat) (h : d ≠ t) : ∀ l : List (Nat × AV), find (drop d l) t = find l t
  | [] => rfl
  | (k, a) :: r => by
    unfold drop
    split
    · rename_i hk
      rw [find_drop_ne d t h r, find, if_neg (by omega)]
    · simp only [find]; rw [find_drop_ne d t h r]
theorem look_put (s : St) (d t : Nat) (a : AV) : (s.put d a).look t = if d = t then a else s.look t := by
  unfold St.look St.put
  by_cases h : d = t
  · subst h; rw [if_pos rfl]; simp [find_drop_same, find]
  · rw [if_neg h]; simp only [find_drop_ne d t h, find, if_neg h]
theorem look_putO (s : St) (d t : Nat) (a : AV) : (s.putO d a).look t = if d = t then a else s.look t := by
  unfold St.look St.putO
  by_cases h : d = t
  · subst h; rw [if_pos rfl]; simp [find]
  · rw [if_neg h]; simp only [find, if_neg h, find_drop_ne d t h]
theorem find_own_put (s : St) (d t : Nat) (a : AV) : find (s.put d a).own t = if d = t then none else find s.own t := by
  by_cases h : d = t
  · subst h; rw [if_pos rfl]; exact find_drop_same d _
  · rw [if_neg h]; exact find_drop_ne d t h _
theorem find_own_putO (s : St) (d t : Nat) (a : AV) : find (s.putO d a).own t = if d = t then some a else find s.own t := by
  unfold St.putO
  by_cases h : d = t
  · subst h; rw [if_pos rfl]; simp [find]
  · rw [if_neg h]; simp only [find, if_neg h, find_drop_ne d t h]
theorem find_killE (p : Id → Bool) (t : Nat) : ∀ l : List (Nat × AV), find (killE p l) t = (find l t).map (AV.killed p)
  | [] => rfl
  | (k, a) :: r => by
    simp only [killE, find]
    split
    · rfl
    · exact find_killE p t r
theorem killed_cases (p : Id → Bool) (a : AV) : (a.killed p = a.unown ∧ ∃ c, a.idOf = some c ∧ p c = true) ∨ (a.killed p = a ∧ ∀ c, a.idOf = some c → p c = false) := by
  cases a with
  | sl k es nul room =>
    cases room with
    | own c =>
      simp only [AV.killed, AV.unown, AV.idOf]
      cases hp : p c with
      | true => left; exact ⟨by simp, c, rfl, hp⟩
      | false => right; exact ⟨by simp, fun c' hc => by injection hc with hc; subst hc; exact hp⟩
    | _ => right; exact ⟨rfl, fun c hc => by simp [AV.idOf] at hc⟩
  | _ => right; exact ⟨rfl, fun c hc => by simp [AV.idOf] at hc⟩
theorem look_kill (s : St) (p : Id → Bool) (t : Nat) : (s.kill p).look t = (match find s.own t with | some a => a.killed p | none => s.look t) := by
  unfold St.kill St.look
  simp only [find_killE]
  cases find s.own t <;> rfl

section
variable {G G' : Ghost} {R : Nat → Id → Prop}
theorem OwnAt.keep (hB : ∀ (b : Nat) (B : Buf) (c : Id), G.bufs b = some B → R b c → G'.bufs b = some B) {a : AV} {x : Value} (h : OwnAt G R a x) : OwnAt G' R a x := by
  cases a with
  | sl k es nul room =>
    cases room with
    | own c =>
      cases x with
      | slice a0 len cap =>
        rcases h with h | ⟨b, o, B, h1, h2, h3, h4, h5⟩
        · exact .inl h
        · exact .inr ⟨b, o, B, h1, hB b B c h2 h5, h3, h4, h5⟩
      | _ => exact trivial
    | _ => cases x <;> exact trivial
  | _ => exact trivial
end

/-- A new variable; a block that is what it is now; a variable that is written. -/
def Ghost.newBoxAt (G : Ghost) (b : Nat) (vs : List Value) (o : Nat) : Ghost := { G with boxes := G.boxes ++ [b], boxv := G.boxv ++ [vs], base := fun x => if x = G.boxes.length then o else G.base x }
abbrev Ghost.newBox (G : Ghost) (b : Nat) (vs : List Value) : Ghost := G.newBoxAt b vs 0
theorem Ghost.newBoxAt_old {G : Ghost} {b : Nat} {vs : List Value} {o i : Nat} (h : i < G.boxes.length) : (G.newBoxAt b vs o).base i = G.base i := if_neg (by omega)
theorem Ghost.newBoxAt_new {G : Ghost} {b : Nat} {vs : List Value} {o : Nat} : (G.newBoxAt b vs o).base G.boxes.length = o := if_pos rfl
def Ghost.setBuf (G : Ghost) (b : Nat) (B : Buf) : Ghost := { G with bufs := fun x => if x = b then some B else G.bufs x }
def Ghost.setBox (G : Ghost) (i : Nat) (vs : List Value) : Ghost := { G with boxv := G.boxv.set i vs }

section
variable {G : Ghost} {w : World}
theorem WorldOk.fresh (h : WorldOk G w) : G.bufs w.heap.size = none := by
  cases hB : G.bufs w.heap.size with
  | none => rfl
  | some B => have := (h.buf _ B hB).2.1; omega
theorem WorldOk.boxlt (h : WorldOk G w) {i b : Nat} (hb : G.boxes[i]? = some b) : b < w.heap.size ∧ G.w0.heap.size ≤ b := by
  have hv : i < G.boxv.length := by rw [h.len]; exact (List.getElem?_eq_some_iff.1 hb).1
  have := h.box i b _ hb (List.getElem?_eq_getElem hv)
  exact ⟨this.2.1, this.1⟩
theorem cell_alloc (w : World) (o : Obj) {b : Nat} (j : Nat) (hb : b < w.heap.size) : (w.alloc o).cell? ⟨b, j, none⟩ = w.cell? ⟨b, j, none⟩ ∧ (w.alloc o).frozen? ⟨b, j, none⟩ = w.frozen? ⟨b, j, none⟩ :=
  ⟨World.cell?_of_block (w := w) (a := ⟨b, j, none⟩) (heap_alloc_old w o hb), World.frozen?_of_block (w := w) (a := ⟨b, j, none⟩) (heap_alloc_old w o hb)⟩
theorem cell_new (w : World) (vs : List Value) (e : TypeId) (j : Nat) : (w.alloc (.cells vs.toArray e)).cell? ⟨w.heap.size, j, none⟩ = vs[j]? ∧ (w.alloc (.cells vs.toArray e)).frozen? ⟨w.heap.size, j, none⟩ = false := by
  constructor
  · rw [cell_of_row _ _ j vs.toArray e (0, 0) (heap_alloc_new w _)]; simp
  · exact World.frozen?_alloc_new w _ _ _
theorem ObjsOk.newBox {w' : World} (h : ObjsOk G w) (hk : Keeps w w') (hl : G.boxv.length = G.boxes.length) {b : Nat} (hb : G.kinds b = none) {vs : List Value} {o : Nat} : ObjsOk (G.newBoxAt b vs o) w' := by
  have h' := h.keep hk
  refine ⟨h'.obj, fun i x us κ h1 h2 h3 => ?_, h'.kind, h'.room⟩
  have h1' : (G.boxes ++ [b])[i]? = some x := h1
  have h2' : (G.boxv ++ [vs])[i]? = some us := h2
  by_cases hi : i < G.boxes.length
  · rw [List.getElem?_append_left hi] at h1'
    rw [List.getElem?_append_left (by rw [hl]; exact hi)] at h2'
    exact h'.kbox i x us κ h1' h2' h3
  · rw [List.getElem?_append_right (by omega)] at h1'
    have : x = b := by
      have := List.mem_of_getElem? h1'
      simpa using this
    subst this
    have h3' : G.kinds x = some κ := h3
    rw [hb] at h3'; cases h3'
theorem WorldOk.newBox (h : WorldOk G w) (vs : List Value) (e : TypeId) : WorldOk (G.newBox w.heap.size vs) (w.alloc (.cells vs.toArray e)) := by
  refine ⟨h.below.alloc h.below.size _, fun b B hB => ?_, fun i b us hb hv => ?_, ?_, by simp [Ghost.newBoxAt, h.len], h.obj.newBox (Keeps.alloc w _) h.len h.obj.new_none⟩
  · obtain ⟨h1, h2, h3, h4, h5⟩ := h.buf b B hB
    refine ⟨h1, by simp; omega, h3, fun j hj => ?_, fun j x hx => ?_⟩
    · rw [(cell_alloc w _ j h2).1, (cell_alloc w _ j h2).2]; exact h4 j hj
    · rw [(cell_alloc w _ j h2).1]; exact h5 j x hx
  · have hb' : (G.boxes ++ [w.heap.size])[i]? = some b := hb
    have hv' : (G.boxv ++ [vs])[i]? = some us := hv
    by_cases hi : i < G.boxes.length
    · rw [List.getElem?_append_left hi] at hb'
      rw [List.getElem?_append_left (by rw [h.len]; exact hi)] at hv'
      obtain ⟨h1, h2, h3, h4⟩ := h.box i b us hb' hv'
      refine ⟨h1, by simp; omega, h3, fun j x hx => ?_⟩
      rw [Ghost.newBoxAt_old hi, (cell_alloc w _ _ h2).1, (cell_alloc w _ _ h2).2]; exact h4 j x hx
    · have hi2 : i = G.boxes.length := by
        have := (List.getElem?_eq_some_iff.1 hb').1
        simp at this; omega
      subst hi2
      simp at hb'
      rw [← h.len] at hv'
      simp at hv'
      subst hb' hv'
      refine ⟨h.below.size, by simp, fun _ => h.fresh, fun j x hx => ?_⟩
      rw [Ghost.newBoxAt_new, Nat.zero_add, (cell_new w vs e j).1]
      exact fun _ => ⟨hx, (cell_new w vs e j).2⟩
  · exact ⟨h.nodup.snoc h.len (fun i hi => by have := (h.boxlt hi).1; omega) vs, h.dom⟩
theorem Ext.newBoxAt (b : Nat) (vs : List Value) (o : Nat) : Ext G (G.newBoxAt b vs o) := ⟨rfl, fun b B h => ⟨[], by show G.bufs b = _; rw [h, List.append_nil]⟩, ⟨[b], rfl⟩, fun _ _ h => h, fun _ _ hb => ⟨rfl, Ghost.newBoxAt_old (List.getElem?_eq_some_iff.1 hb).1⟩⟩
theorem Ext.newBox (b : Nat) (vs : List Value) : Ext G (G.newBox b vs) := Ext.newBoxAt b vs 0
theorem WorldOk.newBuf (h : WorldOk G w) (vs : List Value) (e : TypeId) : WorldOk (G.setBuf w.heap.size ⟨vs, vs.length⟩) (w.alloc (.cells vs.toArray e)) := by
  refine ⟨h.below.alloc h.below.size _, fun b B hB => ?_, fun i b us hb hv => ?_, h.nodup2, h.len, h.objK (Keeps.alloc w _)⟩
  · have hB' : (if b = w.heap.size then some (⟨vs, vs.length⟩ : Buf) else G.bufs b) = some B := hB
    split at hB'
    · rename_i hb
      subst hb
      injection hB' with hB'
      subst hB'
      refine ⟨h.below.size, by simp, Nat.le_refl _, fun j hj => ?_, fun j x hx => ?_⟩
      · rw [(cell_new w vs e j).1, (cell_new w vs e j).2, List.getElem?_eq_getElem hj]; exact ⟨rfl, rfl⟩
      · rw [(cell_new w vs e j).1]; exact hx
    · obtain ⟨h1, h2, h3, h4, h5⟩ := h.buf b B hB'
      refine ⟨h1, by simp; omega, h3, fun j hj => ?_, fun j x hx => ?_⟩
      · rw [(cell_alloc w _ j h2).1, (cell_alloc w _ j h2).2]; exact h4 j hj
      · rw [(cell_alloc w _ j h2).1]; exact h5 j x hx
  · obtain ⟨h1, h2, h3, h4⟩ := h.box i b us hb hv
    refine ⟨h1, by simp; omega, fun hne => ?_, fun j x hx => ?_⟩
    · show (if b = w.heap.size then _ else G.bufs b) = none
      rw [if_neg (by omega)]; exact h3 hne
    · show _ → (w.alloc _).cell? ⟨b, G.base i + j, none⟩ = _ ∧ _
      rw [(cell_alloc w _ _ h2).1]; exact fun hk => ⟨(h4 j x hx hk).1, ((cell_alloc w _ _ h2).2).trans (h4 j x hx hk).2⟩
theorem Ext.newBuf (h : WorldOk G w) (B : Buf) : Ext G (G.setBuf w.heap.size B) := by
  refine ⟨rfl, fun b B' hB => ⟨[], ?_⟩, ⟨[], by rw [List.append_nil]; rfl⟩, fun _ _ h => h, fun _ _ _ => ⟨rfl, rfl⟩⟩
  have := (h.buf b B' hB).2.1
  show (if b = w.heap.size then _ else G.bufs b) = _
  rw [if_neg (by omega), hB, List.append_nil]
end

section
variable {P : Program} {C : Ctx} {N : Nat} {G : Ghost} {cls : Nat → Id} {s : St} {a : Act} {w : World}
theorem tmps_put {d : Nat} {v : Value} (hd : d < a.tmps.size) (t : Nat) : (a.put (some d) v).tmps.getD t undef = if d = t then v else a.tmps.getD t undef := by
  simp only [Act.put, Array.getD_eq_getD_getElem?, Array.getElem?_setIfInBounds]
  by_cases h : d = t
  · subst h; simp [hd]
  · simp [h]
theorem Rel.put (h : Rel C N G cls s a w) {d : Nat} (hd : d < N) {b : AV} {v : Value} (hs : Sees G b v) (hi : b.idOf = none) : Rel C N G cls (s.put d b) (a.put (some d) v) w := by
  refine ⟨h.ok, h.heap, h.ownh, fun t ht => ?_, fun t ht => ?_, by simp [Act.put, h.size], h.defers, h.ext, h.boxes, h.bufs⟩
  · rw [look_put, tmps_put (by rw [h.size]; exact hd)]
    split
    · exact ⟨hs, .none _ hi⟩
    · exact h.env t ht
  · rw [find_own_put] at ht
    rw [look_put]
    split
    · exact hi
    · rename_i hdt; rw [if_neg hdt] at ht; exact h.plain t ht
theorem Rel.putO (h : Rel C N G cls s a w) {d : Nat} (hd : d < N) {b : AV} {v : Value} (hs : Sees G b v) (hO : OwnAt G (Own C cls) b v) : Rel C N G cls (s.putO d b) (a.put (some d) v) w := by
  refine ⟨h.ok, h.heap, h.ownh, fun t ht => ?_, fun t ht => ?_, by simp [Act.put, h.size], h.defers, h.ext, h.boxes, h.bufs⟩
  · rw [look_putO, tmps_put (by rw [h.size]; exact hd)]
    split
    · exact ⟨hs, hO⟩
    · exact h.env t ht
  · rw [find_own_putO] at ht
    rw [look_putO]
    split
    · rename_i hdt; rw [if_pos hdt] at ht; cases ht
    · rename_i hdt; rw [if_neg hdt] at ht; exact h.plain t ht
/-- A slot that need not be there. -/
theorem Rel.puts (h : Rel C N G cls s a w) {d : Option Nat} (hd : ∀ x, d = some x → x < N) {b : AV} {v : Value} {o : Bool} (hs : Sees G b v) (hO : OwnAt G (Own C cls) b v) (hi : o = false → b.idOf = none) : Rel C N G cls (s.puts d b o) (a.put d v) w := by
  cases d with
  | none => exact h
  | some d =>
    cases o with
    | true => exact h.putO (hd d rfl) hs hO
    | false => exact h.put (hd d rfl) hs (hi rfl)
theorem Rel.kill (h : Rel C N G cls s a w) (p : Id → Bool) : Rel C N G cls (s.kill p) a w := by
  have hl : ∀ t, (s.kill p).look t = s.look t ∨ (s.kill p).look t = (s.look t).unown := fun t => by
    rw [look_kill]
    cases hf : find s.own t with
    | none => exact .inl rfl
    | some x =>
      have : s.look t = x := by unfold St.look; rw [hf]
      rw [this]
      rcases killed_cases p x with ⟨h1, _⟩ | ⟨h1, _⟩
      · exact .inr h1
      · exact .inl h1
  refine ⟨h.ok, h.heap, h.ownh, fun t ht => ?_, fun t ht => ?_, h.size, h.defers, h.ext, h.boxes, h.bufs⟩
  · rcases hl t with e | e <;> rw [e]
    · exact h.env t ht
    · exact ⟨(h.env t ht).1.unown, .none _ (AV.idOf_unown _)⟩
  · have ht' : find s.own t = none := by
      have : find (killE p s.own) t = none := ht
      rw [find_killE] at this
      cases hf : find s.own t with
      | none => rfl
      | some x => rw [hf] at this; cases this
    rcases hl t with e | e <;> rw [e]
    · exact h.plain t ht'
    · exact AV.idOf_unown _
/-- Behind a kill no slot owns what p tells. -/
theorem Rel.killed (h : Rel C N G cls s a w) (p : Id → Bool) (t : Nat) (c : Id) (hc : ((s.kill p).look t).idOf = some c) : p c = false ∧ (s.kill p).look t = s.look t := by
  rw [look_kill] at hc ⊢
  cases hf : find s.own t with
  | none =>
    rw [hf] at hc
    have := h.plain t hf
    dsimp only at hc
    rw [this] at hc; cases hc
  | some x =>
    rw [hf] at hc
    have e : s.look t = x := by unfold St.look; rw [hf]
    dsimp only at hc ⊢
    rcases killed_cases p x with ⟨h1, _⟩ | ⟨h1, h2⟩
    · rw [h1, AV.idOf_unown] at hc; cases hc
    · rw [h1] at hc ⊢; exact ⟨h2 c hc, e.symm⟩
theorem Rel.drew (h : Rel C N G cls s a w) : Rel C N G cls s a w.drew := ⟨h.ok.drew, h.heap, h.ownh, h.env, h.plain, h.size, h.defers, h.ext, h.boxes, h.bufs⟩
/-- Memory changes, and what grows is as it was. -/
theorem Rel.next (h : Rel C N G cls s a w) {G' : Ghost} {w' : World} {hp : List (List AV)} {wr : List Nat} (hE : Ext G G') (hW : WorldOk G' w') (hB : ∀ b B, G.bufs b = some B → G'.bufs b = some B) (hH : SeesH G' hp)
    (hO : ∀ (i : Nat) (cs : List AV) (vs : List Value), hp[i]? = some cs → G'.boxv[i]? = some vs → ∀ (j : Nat) (c : AV), cs[j]? = some c → OwnAt G' (Own C cls) c (vs.getD j undef) ∧ ∀ x, c.idOf = some x → x = .cell i j)
    (hx : ∀ i, i < C.G0.boxv.length → i ∉ wr → G'.boxv[i]? = C.G0.boxv[i]?) : Rel C N G' cls { s with heap := hp, wr := wr } a w' := by
  refine ⟨hW, hH, hO, fun t ht => ?_, h.plain, h.size, h.defers.ext hE, h.ext.trans hE, hx, fun b B hb ht => hB b B (h.bufs b B hb ht)⟩
  obtain ⟨h1, h2⟩ := h.env t ht
  exact ⟨h1.ext hE, h2.keep fun b B c hb _ => hB b B hb⟩
theorem Rel.heapLen (h : Rel C N G cls s a w) : s.heap.length = G.boxes.length := by rw [h.heap.1, h.ok.len]
/-- A new variable. -/
theorem Rel.newBox (h : Rel C N G cls s a w) {cs : List AV} {vs : List Value} (e : TypeId) (hs : SeesL G cs vs) (h1 : ∀ x ∈ vs, x.oneCell' = true) (hi : ∀ c ∈ cs, c.idOf = none) :
    Rel C N (G.newBox w.heap.size vs) cls { s with heap := s.heap ++ [cs] } a (w.alloc (.cells vs.toArray e)) ∧ Sees (G.newBox w.heap.size vs) (.box s.heap.length 0) (.pointer (some ⟨w.heap.size, 0, none⟩)) := by
  have hE : Ext G (G.newBox w.heap.size vs) := Ext.newBox _ _
  have at_ : ∀ (i : Nat) (ds : List AV) (us : List Value), (s.heap ++ [cs])[i]? = some ds → (G.boxv ++ [vs])[i]? = some us → (s.heap[i]? = some ds ∧ G.boxv[i]? = some us) ∨ (ds = cs ∧ us = vs) := fun i ds us h1 h2 => by
    by_cases hl : i < s.heap.length
    · left
      rw [List.getElem?_append_left hl] at h1
      rw [List.getElem?_append_left (by rw [← h.heap.1]; exact hl)] at h2
      exact ⟨h1, h2⟩
    · right
      have hl2 : i = s.heap.length := by
        have := (List.getElem?_eq_some_iff.1 h1).1
        simp at this; omega
      subst hl2
      simp at h1
      rw [h.heap.1] at h2
      simp at h2
      exact ⟨h1.symm, h2.symm⟩
  have hsee : (G.newBox w.heap.size vs).boxes[s.heap.length]? = some w.heap.size ∧ (G.newBox w.heap.size vs).kinds w.heap.size = none → Sees (G.newBox w.heap.size vs) (.box s.heap.length 0) (.pointer (some ⟨w.heap.size, 0, none⟩)) := fun hp => by
    have := Sees.box (G := G.newBox w.heap.size vs) s.heap.length 0 w.heap.size hp
    rwa [show (G.newBox w.heap.size vs).base s.heap.length = 0 by rw [h.heap.1, h.ok.len]; exact Ghost.newBoxAt_new] at this
  refine ⟨h.next hE (h.ok.newBox vs e) (fun b B hb => hb) ⟨by simp [Ghost.newBox, Ghost.newBoxAt, h.heap.1], fun i ds us h8 h9 => ?_⟩ (fun i ds us h8 h9 j c hj => ?_) (fun i hi2 hw => ?_), hsee ?_⟩
  · rcases at_ i ds us h8 h9 with ⟨h3, h4⟩ | ⟨rfl, rfl⟩
    · obtain ⟨h5, h7, h6⟩ := h.heap.2 i ds us h3 h4
      exact ⟨h5, h7, fun j c hj => (h6 j c hj).ext hE⟩
    · exact ⟨hs.1, h1, fun j c hj => (hs.2 j c hj).ext hE⟩
  · rcases at_ i ds us h8 h9 with ⟨h3, h4⟩ | ⟨rfl, rfl⟩
    · obtain ⟨h5, h6⟩ := h.ownh i ds us h3 h4 j c hj
      exact ⟨h5.keep fun b B c hb _ => hb, h6⟩
    · have := hi c (List.mem_of_getElem? hj)
      exact ⟨.none _ this, fun x hx => by rw [this] at hx; cases hx⟩
  · obtain ⟨m, hm⟩ := h.ext.boxes
    have hlt : i < G.boxv.length := by
      have h1 := h.ok.len
      rw [hm] at h1
      simp at h1
      by_cases hh : i < G.boxv.length
      · exact hh
      · have h2 := h.boxes i hi2 hw
        rw [List.getElem?_eq_none (by omega), List.getElem?_eq_getElem hi2] at h2
        cases h2
    show (G.boxv ++ [vs])[i]? = _
    rw [List.getElem?_append_left hlt]
    exact h.boxes i hi2 hw
  · refine ⟨?_, h.ok.obj.new_none⟩
    show (G.boxes ++ [w.heap.size])[s.heap.length]? = _
    rw [h.heapLen]; simp
/-- A new block of cells that are never written. -/
theorem Rel.newBuf (h : Rel C N G cls s a w) (vs : List Value) (e : TypeId) : Rel C N (G.setBuf w.heap.size ⟨vs, vs.length⟩) cls s a (w.alloc (.cells vs.toArray e)) := by
  have hB : ∀ b B, G.bufs b = some B → (G.setBuf w.heap.size ⟨vs, vs.length⟩).bufs b = some B := fun b B hb => by
    have := (h.ok.buf b B hb).2.1
    show (if b = w.heap.size then _ else G.bufs b) = _
    rw [if_neg (by omega), hb]
  have hE := Ext.newBuf h.ok ⟨vs, vs.length⟩
  exact h.next hE (h.ok.newBuf vs e) hB ⟨h.heap.1, fun i cs us h1 h2 => by obtain ⟨h3, h5, h4⟩ := h.heap.2 i cs us h1 h2; exact ⟨h3, h5, fun j c hj => (h4 j c hj).ext hE⟩⟩
    (fun i cs us h1 h2 j c hj => by obtain ⟨h3, h4⟩ := h.ownh i cs us h1 h2 j c hj; exact ⟨h3.keep fun b B c hb _ => hB b B hb, h4⟩) h.boxes
end
end Go.Proofs.YtofkddajlgebjaaGreat.Ax
/- Variables that are written, slices that grow. No program is named here. -/
namespace Go.Proofs.YtofkddajlgebjaaGreat.Ax
open Go.RowKit Go By

section
variable {α : Type}
theorem lay_length : ∀ (l cs : List α) (o : Nat), (lay cs o l).length = cs.length
  | [], _, _ => rfl
  | a :: l, cs, o => by rw [lay, lay_length l]; simp
theorem lay_get : ∀ (l cs : List α) (o j : Nat), o + l.length ≤ cs.length → (lay cs o l)[j]? = if o ≤ j ∧ j < o + l.length then l[j - o]? else cs[j]?
  | [], cs, o, j, _ => by rw [lay, if_neg (by simp)]
  | a :: l, cs, o, j, h => by
    simp only [List.length_cons] at h ⊢
    rw [lay, lay_get l (cs.set o a) (o + 1) j (by simp; omega)]
    by_cases hj : o = j
    · subst hj
      rw [if_neg (by omega), if_pos (by omega), List.getElem?_set_self (by omega)]
      simp
    · rw [List.getElem?_set_ne hj]
      by_cases h2 : o + 1 ≤ j ∧ j < o + 1 + l.length
      · rw [if_pos h2, if_pos (by omega), show j - o = (j - (o + 1)) + 1 by omega, List.getElem?_cons_succ]
      · rw [if_neg h2, if_neg (by omega)]
theorem lay_mem : ∀ (l cs : List α) (o : Nat) (x : α), x ∈ lay cs o l → x ∈ cs ∨ x ∈ l
  | [], cs, o, x, h => .inl h
  | a :: l, cs, o, x, h => by
    rcases lay_mem l (cs.set o a) (o + 1) x h with h | h
    · rcases List.mem_or_eq_of_mem_set h with h | rfl
      · exact .inl h
      · exact .inr (List.mem_cons_self ..)
    · exact .inr (List.mem_cons_of_mem _ h)
end
section
variable {G : Ghost} {w : World}
theorem SeesL.lay : ∀ (l : List AV) (vs : List Value) (cs : List AV) (us : List Value) (o : Nat), SeesL G l vs → SeesL G cs us → SeesL G (Ax.lay cs o l) (Ax.lay us o vs)
  | [], [], _, _, _, _, h => h
  | [], v :: vs, _, _, _, h, _ => by have := h.1; simp at this
  | a :: l, [], _, _, _, h, _ => by have := h.1; simp at this
  | a :: l, v :: vs, cs, us, o, h, hc => by
    obtain ⟨h1, h2⟩ := h.tail
    exact SeesL.lay l vs _ _ (o + 1) h2 (hc.set o h1)
theorem setCells_out (w : World) (b o : Nat) (l : List Value) {b' j : Nat} (h : b' ≠ b ∨ j < o ∨ o + l.length ≤ j) : (w.setCells b o l).cell? ⟨b', j, none⟩ = w.cell? ⟨b', j, none⟩ :=
  World.cell?_setCells_out b l o w ⟨b', j, none⟩ fun hb _ => by
    rcases h with h | h
    · exact absurd hb h
    · exact h
theorem setCells_plain : ∀ (l : List Value) (b o : Nat) (w : World), (w.setCells b o l).heap.size = w.heap.size ∧ (w.setCells b o l).os = w.os ∧ (w.setCells b o l).output = w.output ∧ (w.setCells b o l).tape = w.tape
  | [], _, _, _ => ⟨rfl, rfl, rfl, rfl⟩
  | u :: l, b, o, w => by
    have := setCells_plain l b (o + 1) (w.setCell ⟨b, o, none⟩ u)
    exact ⟨this.1.trans (by simp), this.2.1, this.2.2.1, this.2.2.2⟩
theorem below_setCells {B : Nat} {w0 w : World} (h : Below B w0 w) (b o : Nat) (l : List Value) (hb : B ≤ b) (hB : B ≤ w.heap.size) : Below B w0 (w.setCells b o l) := by
  obtain ⟨h1, h2, h3, h4⟩ := setCells_plain l b o w
  exact h.trans ⟨h2, h4, h3, by rw [h1]; exact Nat.le_refl _, fun k hk => World.heap_setCells_other w b o l (by omega) (by omega)⟩
theorem ObjsOk.setBox {w' : World} (h : ObjsOk G w) (hk : Keeps w w') {i b : Nat} (hb : G.boxes[i]? = some b) (hkn : G.kinds b = none) {us : List Value} : ObjsOk (G.setBox i us) w' := by
  have h' := h.keep hk
  refine ⟨h'.obj, fun j x vs κ h1 h2 h3 => ?_, h'.kind, h'.room⟩
  have h1' : G.boxes[j]? = some x := h1
  have h3' : G.kinds x = some κ := h3
  have h2' : (G.boxv.set i us)[j]? = some vs := h2
  rw [List.getElem?_set] at h2'
  split at h2'
  · rename_i e
    subst e
    rw [hb] at h1'; injection h1' with h1'; subst h1'
    rw [hkn] at h3'; cases h3'
  · exact h'.kbox j x vs κ h1' h2' h3'
/-- A variable is written. -/
theorem WorldOk.setBox (h : WorldOk G w) {i b : Nat} (hb : G.boxes[i]? = some b) (hkn : G.kinds b = none) {us : List Value} (hus : G.boxv[i]? = some us) (o : Nat) (l : List Value) (hl : o + l.length ≤ us.length) : WorldOk (G.setBox i (Ax.lay us o l)) (w.setCells b (G.base i + o) l) := by
  by_cases hnil : us = []
  · subst hnil
    have hl0 : l = [] := List.eq_nil_of_length_eq_zero (by have : o + l.length ≤ 0 := hl; omega)
    subst hl0
    have e : G.setBox i (Ax.lay [] o []) = G := by
      have e1 : G.boxv.set i [] = G.boxv := by
        obtain ⟨h1, h2⟩ := List.getElem?_eq_some_iff.1 hus
        rw [← h2]; exact List.set_getElem_self h1
      show { G with boxv := G.boxv.set i [] } = G
      rw [e1]
    rw [e]; exact h
  obtain ⟨b1, b2, b3', b4⟩ := h.box i b us hb hus
  have b3 := b3' hnil
  have hz := (setCells_plain l b (G.base i + o) w).1
  refine ⟨below_setCells h.below b _ l b1 h.below.size, fun x B hB => ?_, fun i' b' us' hb' hv' => ?_, ⟨h.nodup.set hus hnil _, h.dom⟩, by simp [Ghost.setBox, h.len], h.obj.setBox (keepsO_setCells l b _ w) hb hkn⟩
  · obtain ⟨h1, h2, h3, h4, h5⟩ := h.buf x B hB
    have hne : x ≠ b := fun e => by subst e; rw [show G.bufs x = some B from hB] at b3; cases b3
    refine ⟨h1, by rw [hz]; exact h2, h3, fun j hj => ?_, fun j y hy => ?_⟩
    · rw [setCells_out w b _ l (.inl hne), World.frozen?_setCells]; exact h4 j hj
    · rw [setCells_out w b _ l (.inl hne)]; exact h5 j y hy
  · have hv2 : (G.boxv.set i (Ax.lay us o l))[i']? = some us' := hv'
    rw [List.getElem?_set] at hv2
    by_cases hi : i = i'
    · subst hi
      have hbb : b' = b := by have e : G.boxes[i]? = some b' := hb'; rw [hb] at e; injection e with e; exact e.symm
      subst hbb
      rw [if_pos rfl, if_pos (List.getElem?_eq_some_iff.1 hus).1] at hv2
      injection hv2 with hv2
      subst hv2
      refine ⟨b1, by rw [hz]; exact b2, fun _ => b3, fun j y hy => ?_⟩
      rw [lay_get l us o j hl] at hy
      rw [World.frozen?_setCells]
      show _ → (w.setCells b' (G.base i + o) l).cell? ⟨b', G.base i + j, none⟩ = _ ∧ w.frozen? ⟨b', G.base i + j, none⟩ = _
      split at hy
      · rename_i hj
        have hlt : j < us.length := by omega
        obtain ⟨q, rfl⟩ : ∃ q, j = o + q := ⟨j - o, by omega⟩
        rw [show o + q - o = q by omega] at hy
        have hq : q < l.length := by omega
        rw [← Nat.add_assoc, World.cell?_setCells_in b' l (G.base i + o) w (fun p hp => by rw [Nat.add_assoc, (b4 (o + p) _ (List.getElem?_eq_getElem (by omega)) hkn).1]; rfl) q hq, Nat.add_assoc]
        rw [List.getElem?_eq_getElem hq] at hy
        exact fun _ => ⟨hy, (b4 _ _ (List.getElem?_eq_getElem hlt) hkn).2⟩
      · rename_i hj
        rw [setCells_out w b' _ l (.inr (by omega))]
        exact b4 j y hy
    · rw [if_neg hi] at hv2
      obtain ⟨h1, h2, h3, h4⟩ := h.box i' b' us' hb' hv2
      by_cases hn' : us' = []
      · subst hn'
        exact ⟨h1, by rw [hz]; exact h2, h3, fun j y hy => by simp at hy⟩
      have hne : b' ≠ b := fun e => by
        subst e
        have := h.nodup.other hb hb' hi hus hnil
        rw [hv2] at this; injection this with this; exact hn' this
      refine ⟨h1, by rw [hz]; exact h2, h3, fun j y hy => ?_⟩
      rw [setCells_out w b _ l (.inl hne), World.frozen?_setCells]
      exact h4 j y hy
theorem Ext.setBox (i : Nat) (us : List Value) : Ext G (G.setBox i us) := ⟨rfl, fun b B h => ⟨[], by show G.bufs b = _; rw [h, List.append_nil]⟩, ⟨[], by rw [List.append_nil]; rfl⟩, fun _ _ h => h, fun _ _ _ => ⟨rfl, rfl⟩⟩
/-- A block grows within its room. -/
theorem WorldOk.growIn (h : WorldOk G w) {b : Nat} {B : Buf} (hB : G.bufs b = some B) (l : List Value) (hl : B.cells.length + l.length ≤ B.size) : WorldOk (G.setBuf b ⟨B.cells ++ l, B.size⟩) (w.setCells b B.cells.length l) := by
  obtain ⟨b1, b2, b3, b4, b5⟩ := h.buf b B hB
  have hz := (setCells_plain l b B.cells.length w).1
  have hin : ∀ q (hq : q < l.length), (w.setCells b B.cells.length l).cell? ⟨b, B.cells.length + q, none⟩ = some l[q] := fun q hq => World.cell?_setCells_in b l _ w (fun p hp => (b4 _ (by omega)).1) q hq
  refine ⟨below_setCells h.below b _ l b1 h.below.size, fun x B' hB' => ?_, fun i b' us' hb' hv' => ?_, h.nodup2, h.len, h.objK (keepsO_setCells l b _ w)⟩
  · have hB2 : (if x = b then some (⟨B.cells ++ l, B.size⟩ : Buf) else G.bufs x) = some B' := hB'
    split at hB2
    · rename_i hx
      subst hx
      injection hB2 with hB2
      subst hB2
      refine ⟨b1, by rw [hz]; exact b2, by simp; omega, fun j hj => ?_, fun j y hy => ?_⟩
      · rw [World.frozen?_setCells]
        refine ⟨?_, (b4 j hj).2⟩
        by_cases hjj : B.cells.length ≤ j ∧ j < B.cells.length + l.length
        · obtain ⟨q, rfl⟩ : ∃ q, j = B.cells.length + q := ⟨j - B.cells.length, by omega⟩
          rw [hin q (by omega)]; rfl
        · rw [setCells_out w x _ l (.inr (by omega))]; exact (b4 j hj).1
      · have hy' : (B.cells ++ l)[j]? = some y := hy
        by_cases hj : j < B.cells.length
        · rw [List.getElem?_append_left hj] at hy'
          rw [setCells_out w x _ l (.inr (.inl hj))]
          exact b5 j y hy'
        · obtain ⟨q, rfl⟩ : ∃ q, j = B.cells.length + q := ⟨j - B.cells.length, by omega⟩
          rw [List.getElem?_append_right (by omega), show B.cells.length + q - B.cells.length = q by omega] at hy'
          have hq := (List.getElem?_eq_some_iff.1 hy').1
          rw [hin q hq, ← hy', List.getElem?_eq_getElem hq]
    · rename_i hx
      obtain ⟨h1, h2, h3, h4, h5⟩ := h.buf x B' hB2
      refine ⟨h1, by rw [hz]; exact h2, h3, fun j hj => ?_, fun j y hy => ?_⟩
      · rw [setCells_out w b _ l (.inl hx), World.frozen?_setCells]; exact h4 j hj
      · rw [setCells_out w b _ l (.inl hx)]; exact h5 j y hy
  · obtain ⟨h1, h2, h3, h4⟩ := h.box i b' us' hb' hv'
    by_cases hnil : us' = []
    · subst hnil
      exact ⟨h1, by rw [hz]; exact h2, fun hne => absurd rfl hne, fun j y hy => by simp at hy⟩
    have hne : b' ≠ b := fun e => by subst e; rw [hB] at h3; cases h3 hnil
    refine ⟨h1, by rw [hz]; exact h2, fun hn => ?_, fun j y hy => ?_⟩
    · show (if b' = b then _ else G.bufs b') = none
      rw [if_neg hne]; exact h3 hn
    · rw [setCells_out w b _ l (.inl hne), World.frozen?_setCells]; exact h4 j y hy
theorem Ext.growIn {b : Nat} {B : Buf} (hB : G.bufs b = some B) (l : List Value) : Ext G (G.setBuf b ⟨B.cells ++ l, B.size⟩) := by
  refine ⟨rfl, fun x B' hB' => ?_, ⟨[], by rw [List.append_nil]; rfl⟩, fun _ _ h => h, fun _ _ _ => ⟨rfl, rfl⟩⟩
  show ∃ more, (if x = b then _ else G.bufs x) = _
  by_cases hx : x = b
  · subst hx
    rw [hB] at hB'
    injection hB' with hB'
    subst hB'
    exact ⟨l, by rw [if_pos rfl]⟩
  · exact ⟨[], by rw [if_neg hx, hB', List.append_nil]⟩
/-- A new block, of which the first cells are told. -/
theorem WorldOk.newRoom (h : WorldOk G w) (vs : List Value) (cs : Array Value) (e : TypeId) (hl : vs.length ≤ cs.size) (hc : ∀ (j : Nat) (x : Value), vs[j]? = some x → cs[j]? = some x) : WorldOk (G.setBuf w.heap.size ⟨vs, cs.size⟩) (w.alloc (.cells cs e)) := by
  have hn : ∀ j, (w.alloc (.cells cs e)).cell? ⟨w.heap.size, j, none⟩ = cs[j]? := fun j => cell_of_row _ _ j cs e (0, 0) (heap_alloc_new w _)
  refine ⟨h.below.alloc h.below.size _, fun b B hB => ?_, fun i b us hb hv => ?_, h.nodup2, h.len, h.objK (Keeps.alloc w _)⟩
  · have hB' : (if b = w.heap.size then some (⟨vs, cs.size⟩ : Buf) else G.bufs b) = some B := hB
    split at hB'
    · rename_i hb
      subst hb
      injection hB' with hB'
      subst hB'
      refine ⟨h.below.size, by simp, hl, fun j hj => ?_, fun j x hx => ?_⟩
      · rw [hn, Array.getElem?_eq_getElem hj]; exact ⟨rfl, World.frozen?_alloc_new w _ _ _⟩
      · rw [hn]; exact hc j x hx
    · obtain ⟨h1, h2, h3, h4, h5⟩ := h.buf b B hB'
      refine ⟨h1, by simp; omega, h3, fun j hj => ?_, fun j x hx => ?_⟩
      · rw [(cell_alloc w _ j h2).1, (cell_alloc w _ j h2).2]; exact h4 j hj
      · rw [(cell_alloc w _ j h2).1]; exact h5 j x hx
  · obtain ⟨h1, h2, h3, h4⟩ := h.box i b us hb hv
    refine ⟨h1, by simp; omega, fun hne => ?_, fun j x hx => ?_⟩
    · show (if b = w.heap.size then _ else G.bufs b) = none
      rw [if_neg (by omega)]; exact h3 hne
    · show _ → (w.alloc _).cell? ⟨b, G.base i + j, none⟩ = _ ∧ _
      rw [(cell_alloc w _ _ h2).1]; exact fun hk => ⟨(h4 j x hx hk).1, ((cell_alloc w _ _ h2).2).trans (h4 j x hx hk).2⟩
end
end Go.Proofs.YtofkddajlgebjaaGreat.Ax
/- append, at any slice whose room is its owner's; stores; an owner that gives up. No program is named here. -/
namespace Go.Proofs.YtofkddajlgebjaaGreat.Ax
open Go.RowKit Go By

/-- A cell of a variable owns no room any more. -/
def unownAt (h : List (List AV)) (i j : Nat) : List (List AV) :=
  match h[i]? with
  | some cs => match cs[j]? with
    | some a => h.set i (cs.set j a.unown)
    | none => h
  | none => h
/-- Whose what is appended onto is then. -/
def lblR (c : Id) (d : Nat) : Id :=
  match c with
  | .new _ => .new d
  | _ => .slot d
def lblA (room : Room) (d : Nat) : Id :=
  match room with
  | .own c => lblR c d
  | _ => .slot d
theorem lblR_new {c : Id} {d : Nat} (h : (lblR c d).isNew = true) : c.isNew = true := by
  cases c <;> first | rfl | cases h
theorem lblA_new {room : Room} {d : Nat} (h : (lblA room d).isNew = true) : ∃ c, room = .own c ∧ c.isNew = true := by
  cases room with
  | own c => exact ⟨c, rfl, lblR_new h⟩
  | _ => cases h
/-- Whoever owns this room owns it no more. -/
def St.strip (s : St) (c : Id) : St :=
  { s with own := killE (fun x => decide (x = c)) s.own, heap := match c with | .cell i j => unownAt s.heap i j | _ => s.heap }
def St.stripR (s : St) (r : Room) : St :=
  match r with
  | .own c => s.strip c
  | _ => s

theorem unownAt_length (h : List (List AV)) (i j : Nat) : (unownAt h i j).length = h.length := by
  unfold unownAt; split
  · split
    · simp
    · rfl
  · rfl
theorem unownAt_get (h : List (List AV)) (i j i' : Nat) (cs' : List AV) (hc : (unownAt h i j)[i']? = some cs') : ∃ cs, h[i']? = some cs ∧ cs.length = cs'.length ∧ ∀ (j' : Nat) (a' : AV), cs'[j']? = some a' → ∃ a, cs[j']? = some a ∧ (a' = a ∨ a' = a.unown) ∧ (i' = i → j' = j → a' = a.unown) := by
  unfold unownAt at hc
  split at hc
  · rename_i cs h1
    split at hc
    · rename_i a h2
      rw [List.getElem?_set] at hc
      by_cases hi : i = i'
      · subst hi
        rw [if_pos rfl, if_pos (List.getElem?_eq_some_iff.1 h1).1] at hc
        injection hc with hc
        subst hc
        refine ⟨cs, h1, by simp, fun j' a' ha => ?_⟩
        rw [List.getElem?_set] at ha
        by_cases hj : j = j'
        · subst hj
          rw [if_pos rfl, if_pos (List.getElem?_eq_some_iff.1 h2).1] at ha
          injection ha with ha
          exact ⟨a, h2, .inr ha.symm, fun _ _ => ha.symm⟩
        · rw [if_neg hj] at ha
          exact ⟨a', ha, .inl rfl, fun _ h => absurd h.symm hj⟩
      · rw [if_neg hi] at hc
        exact ⟨cs', hc, rfl, fun j' a' ha => ⟨a', ha, .inl rfl, fun h => absurd h.symm hi⟩⟩
    · rename_i h2
      refine ⟨cs', hc, rfl, fun j' a' ha => ⟨a', ha, .inl rfl, fun h h' => ?_⟩⟩
      subst h h'
      rw [h1] at hc; injection hc with hc; subst hc
      rw [h2] at ha; cases ha
  · rename_i h1
    refine ⟨cs', hc, rfl, fun j' a' ha => ⟨a', ha, .inl rfl, fun h h' => ?_⟩⟩
    subst h; rw [h1] at hc; cases hc

section
variable {P : Program} {C : Ctx} {N : Nat} {G : Ghost} {cls : Nat → Id} {s : St} {a : Act} {w : World}
theorem Rel.strip (h : Rel C N G cls s a w) (c : Id) : Rel C N G cls (s.strip c) a w := by
  have hk := h.kill (fun x => decide (x = c))
  cases c with
  | cell i j =>
    have hl : ∀ (i' : Nat) (cs' : List AV) (vs : List Value), (unownAt s.heap i j)[i']? = some cs' → G.boxv[i']? = some vs → vs.length = cs'.length ∧ (∀ x ∈ vs, x.oneCell' = true) ∧ ∀ (j' : Nat) (a' : AV), cs'[j']? = some a' → Sees G a' (vs.getD j' undef) ∧ OwnAt G (Own C cls) a' (vs.getD j' undef) ∧ ∀ x, a'.idOf = some x → x = .cell i' j' := fun i' cs' vs h1 h2 => by
      obtain ⟨cs, h3, h4, h5⟩ := unownAt_get _ _ _ _ _ h1
      obtain ⟨h6, h7, h8⟩ := h.heap.2 i' cs vs h3 h2
      refine ⟨by rw [h6, h4], h7, fun j' a' ha => ?_⟩
      obtain ⟨b, hb, hab, _⟩ := h5 j' a' ha
      have h9 := h8 j' b hb
      obtain ⟨h10, h11⟩ := h.ownh i' cs vs h3 h2 j' b hb
      rcases hab with rfl | rfl
      · exact ⟨h9, h10, h11⟩
      · exact ⟨h9.unown, .none _ (AV.idOf_unown _), fun x hx => by rw [AV.idOf_unown] at hx; cases hx⟩
    exact ⟨hk.ok, ⟨by show (unownAt s.heap i j).length = _; rw [unownAt_length]; exact h.heap.1, fun i' cs' vs h1 h2 => by obtain ⟨h3, h4, h5⟩ := hl i' cs' vs h1 h2; exact ⟨h3, h4, fun j' a' ha => (h5 j' a' ha).1⟩⟩,
      fun i' cs' vs h1 h2 j' a' ha => ((hl i' cs' vs h1 h2).2.2 j' a' ha).2, hk.env, hk.plain, hk.size, hk.defers, hk.ext, hk.boxes, hk.bufs⟩
  | slot n => exact hk
  | arg n => exact hk
  | res => exact hk
  | new n => exact hk
/-- Behind it nobody owns that room: no slot, no variable's cell. -/
theorem Rel.stripped (h : Rel C N G cls s a w) (c : Id) : (∀ t x, ((s.strip c).look t).idOf = some x → x ≠ c) ∧
    ∀ (i : Nat) (cs : List AV), (s.strip c).heap[i]? = some cs → ∀ (j : Nat) (b : AV), cs[j]? = some b → ∀ x, b.idOf = some x → x ≠ c := by
  refine ⟨fun t x hx => ?_, fun i cs hc j b hb x hx => ?_⟩
  · have : ((s.kill (fun x => decide (x = c))).look t).idOf = some x := hx
    have := (h.killed _ t x this).1
    simpa using this
  · have hlt : i < G.boxv.length := by
      rw [← h.heap.1]
      have h1 := (List.getElem?_eq_some_iff.1 hc).1
      have e : (s.strip c).heap.length = s.heap.length := by
        unfold St.strip
        cases c with
        | cell i j => exact unownAt_length _ _ _
        | _ => rfl
      omega
    have hx2 : x = .cell i j := ((h.strip c).ownh i cs _ hc (List.getElem?_eq_getElem hlt) j b hb).2 x hx
    subst hx2
    intro he
    subst he
    have hc' : (unownAt s.heap i j)[i]? = some cs := hc
    obtain ⟨cs0, _, _, h5⟩ := unownAt_get _ _ _ _ _ hc'
    obtain ⟨b0, _, _, h6⟩ := h5 j b hb
    rw [h6 rfl rfl, AV.idOf_unown] at hx
    cases hx
/-- A block gets a new owner, where nobody else owns it. -/
theorem Rel.reown (h : Rel C N G cls s a w) (b : Nat) (x : Id) (hb : ∀ B, G.bufs b = some B → Acc C b → (∀ t y, (s.look t).idOf = some y → y ≠ cls b) ∧ ∀ (i : Nat) (cs : List AV), s.heap[i]? = some cs → ∀ (j : Nat) (e : AV), cs[j]? = some e → ∀ y, e.idOf = some y → y ≠ cls b) :
    Rel C N G (fun y => if y = b then x else cls y) s a w := by
  have key : ∀ (e : AV) (v : Value), (∀ B, G.bufs b = some B → Acc C b → ∀ y, e.idOf = some y → y ≠ cls b) → OwnAt G (Own C cls) e v → OwnAt G (Own C fun y => if y = b then x else cls y) e v := fun e v hne ho => by
    cases e with
    | sl k es nul room =>
      cases room with
      | own c =>
        cases v with
        | slice a0 len cap =>
          rcases ho with ho | ⟨b', o, B, h1, h2, h3, h4, h5, h6⟩
          · exact .inl ho
          · refine .inr ⟨b', o, B, h1, h2, h3, h4, ?_, h6⟩
            have : b' ≠ b := fun he => by
              subst he
              exact hne B h2 h6 c rfl h5.symm
            show (if b' = b then x else cls b') = c
            rw [if_neg this]; exact h5
        | _ => exact trivial
      | _ => cases v <;> exact trivial
    | _ => exact trivial
  refine ⟨h.ok, h.heap, fun i cs vs h1 h2 j c hj => ?_, fun t ht => ⟨(h.env t ht).1, key _ _ (fun B hB hA y hy => (hb B hB hA).1 t y hy) (h.env t ht).2⟩, h.plain, h.size, h.defers, h.ext, h.boxes, h.bufs⟩
  obtain ⟨h3, h4⟩ := h.ownh i cs vs h1 h2 j c hj
  exact ⟨key _ _ (fun B hB hA y hy => (hb B hB hA).2 i cs h1 j c hj y hy) h3, h4⟩
/-- A block grows in which nobody else has room. -/
theorem Rel.growIn (h : Rel C N G cls s a w) {b : Nat} {B : Buf} (hB : G.bufs b = some B) (hA : Acc C b) (l : List Value) (hl : B.cells.length + l.length ≤ B.size)
    (hb : (∀ t y, (s.look t).idOf = some y → y ≠ cls b) ∧ ∀ (i : Nat) (cs : List AV), s.heap[i]? = some cs → ∀ (j : Nat) (e : AV), cs[j]? = some e → ∀ y, e.idOf = some y → y ≠ cls b) :
    Rel C N (G.setBuf b ⟨B.cells ++ l, B.size⟩) cls s a (w.setCells b B.cells.length l) := by
  have hE := Ext.growIn hB l
  have key : ∀ (e : AV) (v : Value), (∀ y, e.idOf = some y → y ≠ cls b) → OwnAt G (Own C cls) e v → OwnAt (G.setBuf b ⟨B.cells ++ l, B.size⟩) (Own C cls) e v := fun e v hne ho => by
    cases e with
    | sl k es nul room =>
      cases room with
      | own c =>
        cases v with
        | slice a0 len cap =>
          rcases ho with ho | ⟨b', o, B', h1, h2, h3, h4, h5, h6⟩
          · exact .inl ho
          · refine .inr ⟨b', o, B', h1, ?_, h3, h4, h5, h6⟩
            have : b' ≠ b := fun he => by subst he; exact hne c rfl h5.symm
            show (if b' = b then _ else G.bufs b') = _
            rw [if_neg this]; exact h2
        | _ => exact trivial
      | _ => cases v <;> exact trivial
    | _ => exact trivial
  refine ⟨h.ok.growIn hB l hl, ⟨h.heap.1, fun i cs us h1 h2 => ?_⟩, fun i cs vs h1 h2 j c hj => ?_, fun t ht => ⟨(h.env t ht).1.ext hE, key _ _ (fun y hy => hb.1 t y hy) (h.env t ht).2⟩, h.plain, h.size, h.defers, h.ext.trans hE, h.boxes, fun b' B' h1 h2 => ?_⟩
  · obtain ⟨h3, h5, h4⟩ := h.heap.2 i cs us h1 h2
    exact ⟨h3, h5, fun j c hj => (h4 j c hj).ext hE⟩
  · obtain ⟨h3, h4⟩ := h.ownh i cs vs h1 h2 j c hj
    exact ⟨key _ _ (fun y hy => hb.2 i cs h1 j c hj y hy) h3, h4⟩
  · have : b' ≠ b := fun he => by
      subst he
      rcases hA with hA | hA
      · rw [hA] at h1; cases h1
      · exact h2 hA
    show (if b' = b then _ else G.bufs b') = _
    rw [if_neg this]; exact h.bufs b' B' h1 h2
/-- A new block with room. -/
theorem Rel.newRoom (h : Rel C N G cls s a w) (vs : List Value) (cs : Array Value) (e : TypeId) (hl : vs.length ≤ cs.size) (hc : ∀ (j : Nat) (x : Value), vs[j]? = some x → cs[j]? = some x) : Rel C N (G.setBuf w.heap.size ⟨vs, cs.size⟩) cls s a (w.alloc (.cells cs e)) := by
  have hB : ∀ b B, G.bufs b = some B → (G.setBuf w.heap.size ⟨vs, cs.size⟩).bufs b = some B := fun b B hb => by
    have := (h.ok.buf b B hb).2.1
    show (if b = w.heap.size then _ else G.bufs b) = _
    rw [if_neg (by omega), hb]
  have hE := Ext.newBuf h.ok ⟨vs, cs.size⟩
  exact h.next hE (h.ok.newRoom vs cs e hl hc) hB ⟨h.heap.1, fun i cs us h1 h2 => by obtain ⟨h3, h5, h4⟩ := h.heap.2 i cs us h1 h2; exact ⟨h3, h5, fun j c hj => (h4 j c hj).ext hE⟩⟩
    (fun i cs us h1 h2 j c hj => by obtain ⟨h3, h4⟩ := h.ownh i cs us h1 h2 j c hj; exact ⟨h3.keep fun b B c hb _ => hB b B hb, h4⟩) h.boxes

/-- Two runs of cells, one behind the other, are a slice's elements. -/
theorem sees_joined {G' : Ghost} {k : Nat} {es es2 : List (List AV)} {u : Nat → Nat → Value} {news : List Value} (b o cap : Nat) (x : Id) (hk : ∀ e, e ∈ es → e.length = k) (hk2 : ∀ e, e ∈ es2 → e.length = k)
    (hs : ∀ i e, es[i]? = some e → ∀ j c, e[j]? = some c → Sees G' c (u i j)) (h1 : ∀ i j, i < es.length → j < k → (u i j).oneCell' = true)
    (hn : news.length = es2.length * k) (hs2 : ∀ i e, es2[i]? = some e → ∀ j c, e[j]? = some c → Sees G' c (news.getD (i * k + j) undef)) (hn1 : ∀ y ∈ news, y.oneCell' = true)
    (hcap : es.length + es2.length ≤ cap) (hm : cap ≤ maxLen)
    (hc1 : ∀ i j, i < es.length → j < k → G'.cell b (o + i * k + j) = some (u i j)) (hc2 : ∀ p, p < es2.length * k → G'.cell b (o + es.length * k + p) = some (news.getD p undef)) :
    Sees G' (.sl k (es ++ es2) none (.own x)) (.slice (some ⟨b, o, none⟩) (es.length + es2.length) cap) := by
  have hidx : ∀ i j, i < es2.length → j < k → i * k + j < es2.length * k := fun i j hi hj => by
    have : (i + 1) * k ≤ es2.length * k := Nat.mul_le_mul_right k hi
    rw [Nat.add_mul, Nat.one_mul] at this
    omega
  refine .sl k _ none _ _ _ _ (fun i j => if i < es.length then u i j else news.getD ((i - es.length) * k + j) undef) (by simp) ⟨fun h => (by cases h), fun h => (by cases h), fun h => (by cases h)⟩ (fun e he => ?_) hcap hm (fun h => by cases h) (fun _ => ⟨b, o, rfl, fun i j hi hj => ?_⟩) (fun i e he j c hj => ?_) (fun i j hi hj => ?_)
  · rcases List.mem_append.1 he with he | he
    · exact hk e he
    · exact hk2 e he
  · rw [List.length_append] at hi
    by_cases hil : i < es.length
    · simp only [if_pos hil]; exact hc1 i j hil hj
    · simp only [if_neg hil]
      obtain ⟨q, rfl⟩ : ∃ q, i = es.length + q := ⟨i - es.length, by omega⟩
      rw [show es.length + q - es.length = q by omega, ← hc2 _ (hidx q j (by omega) hj), Nat.add_mul]
      congr 1
      omega
  · by_cases hil : i < es.length
    · rw [List.getElem?_append_left hil] at he
      simp only [if_pos hil]; exact hs i e he j c hj
    · rw [List.getElem?_append_right (by omega)] at he
      simp only [if_neg hil]; exact hs2 _ e he j c hj
  · rw [List.length_append] at hi
    by_cases hil : i < es.length
    · simp only [if_pos hil]; exact h1 i j hil hj
    · simp only [if_neg hil]
      have hlt := hidx (i - es.length) j (by omega) hj
      rw [List.getD_eq_getElem?_getD, List.getElem?_eq_getElem (by omega)]
      exact hn1 _ (List.getElem_mem _)
end
end Go.Proofs.YtofkddajlgebjaaGreat.Ax
namespace Go.Proofs.YtofkddajlgebjaaGreat.Ax
open Go.RowKit Go By

section
variable {P : Program} {C : Ctx} {N : Nat} {G : Ghost} {cls : Nat → Id} {s : St} {a : Act} {w : World}
/-- What append leaves. -/
def Appended (C : Ctx) (N : Nat) (G : Ghost) (s : St) (room : Room) (a : Act) (k : Nat) (D : Id) (es : List (List AV)) (v : Value) (w' : World) : Prop :=
  ∃ G' cls', Ext G G' ∧ G'.boxv = G.boxv ∧ Rel C N G' cls' (s.stripR room) a w' ∧ Sees G' (.sl k es none (.own D)) v ∧ OwnAt G' (Own C cls') (.sl k es none (.own D)) v

theorem Rel.stripR (h : Rel C N G cls s a w) (r : Room) : Rel C N G cls (s.stripR r) a w := by
  cases r with
  | own c => exact h.strip c
  | _ => exact h
theorem append_sees (h : Rel C N G cls s a w) (t tx ty e : TypeId) (i : TypeInfo) (z : Value) (ht : P.underlying t = some (.slice e)) (hi : P.info? e = some i) (hz : i.zero = some z) (k : Nat) (hk : i.size = k) (hzs : z.cells.size = k) (hk0 : 0 < k)
    (k1 : Nat) (es es2 : List (List AV)) (nul : Option Bool) (room : Room) (sv xv : Value) (news : List Value) (hs : Sees G (.sl k1 es nul room) sv) (hO : OwnAt G (Own C cls) (.sl k1 es nul room) sv)
    (hk1 : k1 = k ∨ (es = [] ∧ room = .exact)) (hroom : room ≠ .no) (hk2 : ∀ e, e ∈ es2 → e.length = k) (hsrc : Src P k tx xv es2.length news w)
    (hs2 : ∀ i e, es2[i]? = some e → ∀ j c, e[j]? = some c → Sees G c (news.getD (i * k + j) undef)) (hfit : (es.length + es2.length) * i.bytes ≤ 140737488355328) (hfit2 : es.length + es2.length ≤ 140737488355328) (D : Id) (hD : D.isNew = true → ∃ c, room = .own c ∧ c.isNew = true) :
    ∃ v w', (Builtin.append_ #[t, tx] ty #[sv, xv]).run P w = .ok v w' ∧ Appended C N G s room a k D (es ++ es2) v w' := by
  cases hsv : sv with
  | slice a0 len cap =>
    rw [hsv] at hs hO
    have hs0 := hs
    cases hs with
    | sl _ _ _ _ _ _ _ u hlen hn hkk hcap hmx hr hc hs ho1 =>
      have hkk' : ∀ e, e ∈ es → e.length = k := fun e he => by
        rcases hk1 with hk1 | ⟨hk1, _⟩
        · rw [← hk1]; exact hkk e he
        · rw [hk1] at he; cases he
      have ho1' : ∀ i j, i < es.length → j < k → (u i j).oneCell' = true := fun i j hi hj => by
        rcases hk1 with hk1 | ⟨hk1, _⟩
        · exact ho1 i j hi (by omega)
        · rw [hk1] at hi; simp at hi
      subst hlen
      by_cases hfits : es.length + es2.length ≤ cap
      · by_cases hn0 : es2.length = 0
        · -- nothing is appended
          have hes2 : es2 = [] := List.eq_nil_of_length_eq_zero hn0
          subst hes2
          have hnn : news = [] := by have := hsrc.newsLen; simp at this; exact this
          subst hnn
          refine ⟨_, w, run_append_nothing (P := P) w t tx ty e i ht hi a0 es.length cap hcap xv (by rw [hk]; exact hsrc), ?_⟩
          have hss : Sees G (.sl k (es ++ []) none (.own D)) (.slice a0 es.length cap) := by
            rw [List.append_nil]
            refine .sl k es none _ a0 es.length cap u rfl ⟨hn.1, fun h => (by cases h), fun h => (by cases h)⟩ hkk' hcap hmx (fun h => by cases h) (fun hp => ?_) hs ho1'
            obtain ⟨b, o, e1, e2⟩ := hc hp
            refine ⟨b, o, e1, fun i j hi hj => ?_⟩
            rcases hk1 with hk1 | ⟨hk1, _⟩
            · rw [← hk1] at hj ⊢; exact e2 i j hi hj
            · rw [hk1] at hi; simp at hi
          cases hroomc : room with
          | no => exact absurd hroomc hroom
          | exact => exact ⟨G, cls, Ext.refl G, rfl, h, hss, .inl ⟨hr hroomc, fun hh => by obtain ⟨c, h1, _⟩ := hD hh; rw [hroomc] at h1; cases h1⟩⟩
          | own c =>
            subst hroomc
            have hk1' : k1 = k := by rcases hk1 with hk1 | ⟨_, hk1⟩; exact hk1; cases hk1
            subst hk1'
            rcases hO with hO | ⟨b, o, B, h1, h2, h3, h4, h5⟩
            · exact ⟨G, cls, Ext.refl G, rfl, h.strip c, hss, .inl ⟨hO.1, fun hh => by obtain ⟨c', h1, h2⟩ := hD hh; injection h1 with h1; subst h1; exact hO.2 h2⟩⟩
            · obtain ⟨h6, h7⟩ := h.stripped c
              refine ⟨G, fun y => if y = b then D else cls y, Ext.refl G, rfl, (h.strip c).reown b D fun _ _ _ => ⟨fun t y hy => by rw [h5.1]; exact h6 t y hy, fun i cs hcs j e he y hy => by rw [h5.1]; exact h7 i cs hcs j e he y hy⟩, hss, .inr ⟨b, o, B, h1, h2, by rw [h3], h4, by simp, h5.2⟩⟩
        · -- there is room
          cases hroomc : room with
          | no => exact absurd hroomc hroom
          | exact => have := hr hroomc; omega
          | own c =>
            subst hroomc
            have hk1' : k1 = k := by rcases hk1 with hk1 | ⟨_, hk1⟩; exact hk1; cases hk1
            subst hk1'
            rcases hO with hO | ⟨b, o, B, rfl, h2, h3, h4, h5⟩
            · omega
            · obtain ⟨b1, b2, b3, b4, b5⟩ := h.ok.buf b B h2
              have hnl : news.length = es2.length * k1 := hsrc.newsLen
              have hle : B.cells.length + news.length ≤ B.size := by
                rw [h3, hnl, Nat.add_assoc, ← Nat.add_mul]
                exact Nat.le_trans (Nat.add_le_add_left (Nat.mul_le_mul_right k1 hfits) o) h4
              obtain ⟨h6, h7⟩ := h.stripped c
              have hfree : (∀ t y, ((s.strip c).look t).idOf = some y → y ≠ cls b) ∧ ∀ (i : Nat) (cs : List AV), (s.strip c).heap[i]? = some cs → ∀ (j : Nat) (e : AV), cs[j]? = some e → ∀ y, e.idOf = some y → y ≠ cls b :=
                ⟨fun t y hy => by rw [h5.1]; exact h6 t y hy, fun i cs hcs j e he y hy => by rw [h5.1]; exact h7 i cs hcs j e he y hy⟩
              have hrun := run_append_room_src (P := P) w t tx ty e i ht hi b o es.length cap xv es2.length news (by rw [hk]; exact hsrc) hfits
                (fun j hj => by rw [hk, ← h3]; exact (b4 _ (by omega)).1) (fun j hj => by rw [hk, ← h3]; exact (b4 _ (by omega)).2)
              rw [hk, ← h3] at hrun
              have hE := Ext.growIn (G := G) h2 news
              have hR := ((h.strip c).growIn h2 h5.2 news hle hfree).reown b D fun _ _ _ => hfree
              have hcell : ∀ p, p < B.cells.length + news.length → (G.setBuf b ⟨B.cells ++ news, B.size⟩).cell b p = (B.cells ++ news)[p]? := fun p hp => by
                unfold Ghost.cell
                rw [if_neg (by show ¬ b < G.w0.heap.size; omega)]
                show (if b = b then _ else _ : Option Buf).bind _ = _
                rw [if_pos rfl]; rfl
              refine ⟨_, _, hrun, _, _, hE, rfl, hR, ?_, ?_⟩
              · refine sees_joined b o cap D hkk' hk2 (fun i e he j c hj => (hs i e he j c hj).ext hE) ho1' hnl (fun i e he j c hj => (hs2 i e he j c hj).ext hE) hsrc.one hfits hmx (fun i j hi hj => ?_) (fun p hp => ?_)
                · obtain ⟨b', o', e1, e2⟩ := hc (by omega)
                  injection e1 with e1
                  injection e1 with e1 e3
                  subst e1 e3
                  exact hE.cell (e2 i j hi hj)
                · rw [← h3, hcell _ (by omega), List.getElem?_append_right (by omega), show B.cells.length + p - B.cells.length = p by omega, List.getElem?_eq_getElem (by omega), List.getD_eq_getElem?_getD, List.getElem?_eq_getElem (by omega)]
                  rfl
              · refine .inr ⟨b, o, ⟨B.cells ++ news, B.size⟩, rfl, ?_, ?_, h4, by simp, h5.2⟩
                · show (if b = b then _ else _) = _
                  rw [if_pos rfl]
                · show (B.cells ++ news).length = _
                  rw [List.length_append, h3, hnl, Nat.add_mul]; omega
      · -- a new block
        have hmod : ∀ p, p < es.length * k → p / k < es.length ∧ p % k < k := fun p hp => ⟨(Nat.div_lt_iff_lt_mul hk0).2 hp, Nat.mod_lt _ hk0⟩
        obtain ⟨olds, holds⟩ : ∃ olds : List Value, olds = (List.range (es.length * k)).map fun p => u (p / k) (p % k) := ⟨_, rfl⟩
        have hol : olds.length = es.length * k := by rw [holds]; simp
        have hoat : ∀ p, p < es.length * k → olds[p]? = some (u (p / k) (p % k)) := fun p hp => by rw [holds, List.getElem?_map, List.getElem?_range hp]; rfl
        have hfirst : (Builtin.firstCells i.size es.length (.slice a0 es.length cap)).run P w.drew = .ok olds.toArray w.drew := by
          cases a0 with
          | none =>
            have := (hn.1 rfl).2
            have h0 : olds = [] := List.eq_nil_of_length_eq_zero (by rw [hol, this]; simp)
            rw [h0]
            exact run_firstCells_none w.drew _ _ _ _
          | some ad =>
            refine run_firstCells_some w.drew i.size es.length ad es.length cap olds (by rw [hol, hk]) fun p v hv => ?_
            have hp : p < es.length * k := by have := (List.getElem?_eq_some_iff.1 hv).1; omega
            obtain ⟨hp1, hp2⟩ := hmod p hp
            obtain ⟨b, o, e1, e2⟩ := hc (Nat.lt_of_le_of_lt (Nat.zero_le _) hp1)
            injection e1 with e1
            subst e1
            rw [hoat p hp] at hv
            injection hv with hv
            have hkk2 : k1 = k := by
              rcases hk1 with hk1 | ⟨hk1, _⟩
              · exact hk1
              · rw [hk1] at hp1; simp at hp1
            have := h.ok.cell (e2 (p / k) (p % k) hp1 (by omega))
            rw [add_plain, World.cell?_drew, ← hv, ← this]
            congr 2
            rw [hkk2, Nat.add_assoc, Nat.div_add_mod' p k]
        have hrun := run_append_grow_src (P := P) w t tx ty e i z ht hi hz a0 es.length cap olds hfirst xv es2.length news (by rw [hk]; exact hsrc) (by omega) (by omega) (growslice_fits (by omega) hfit)
        have hnl : news.length = es2.length * k := hsrc.newsLen
        have hge := grownCap_ge w (es.length + es2.length) cap e
        have hcm : grownCap w (es.length + es2.length) cap e ≤ maxLen := grownCap_le_maxLen w _ _ e (by unfold maxLen; omega)
        obtain ⟨nc, hnc⟩ : ∃ nc, nc = grownCap w (es.length + es2.length) cap e := ⟨_, rfl⟩
        rw [← hnc] at hrun hge hcm
        obtain ⟨cs, hcs⟩ : ∃ cs : Array Value, cs = (olds ++ news).toArray ++ Builtin.zeroCells z.cells (nc - (es.length + es2.length)) := ⟨_, rfl⟩
        rw [← hcs] at hrun
        have hsz : cs.size = nc * k := by
          rw [hcs, Array.size_append, size_zeroCells, hzs]
          simp only [List.size_toArray, List.length_append, hol, hnl]
          rw [← Nat.add_mul, ← Nat.add_mul]
          congr 1
          omega
        have hall : (olds ++ news).length ≤ cs.size := by
          rw [hsz, List.length_append, hol, hnl, ← Nat.add_mul]
          exact Nat.mul_le_mul_right k hge
        have hat : ∀ (j : Nat) (x : Value), (olds ++ news)[j]? = some x → cs[j]? = some x := fun j x hx => by
          have hlt := (List.getElem?_eq_some_iff.1 hx).1
          rw [hcs, Array.getElem?_append_left (by simpa using hlt)]
          simpa using hx
        have h0 := (h.stripR room).drew
        have hE := Ext.newBuf (w := w.drew) h0.ok ⟨olds ++ news, cs.size⟩
        have hR := h0.newRoom (olds ++ news) cs e hall hat
        have hfree : ∀ B, (G.setBuf w.drew.heap.size ⟨olds ++ news, cs.size⟩).bufs w.drew.heap.size = some B → True := fun _ _ => trivial
        have hR2 : Rel C N (G.setBuf w.drew.heap.size ⟨olds ++ news, cs.size⟩) (fun y => if y = w.drew.heap.size then D else cls y) (s.stripR room) a (w.drew.alloc (.cells cs e)) := by
          have keep : ∀ (e : AV) (v : Value), OwnAt G (Own C cls) e v → OwnAt (G.setBuf w.drew.heap.size ⟨olds ++ news, cs.size⟩) (Own C fun y => if y = w.drew.heap.size then D else cls y) e v := fun e v ho => by
            cases e with
            | sl k es nul room =>
              cases room with
              | own c =>
                cases v with
                | slice a0 len cap =>
                  rcases ho with ho | ⟨b', o, B', h1, h2, h3, h4, h5, h6⟩
                  · exact .inl ho
                  · have hlt := (h0.ok.buf b' B' h2).2.1
                    have hne : b' ≠ w.drew.heap.size := by omega
                    refine .inr ⟨b', o, B', h1, ?_, h3, h4, ?_, h6⟩
                    · show (if b' = w.drew.heap.size then _ else G.bufs b') = _
                      rw [if_neg hne]; exact h2
                    · show (if b' = w.drew.heap.size then _ else cls b') = c
                      rw [if_neg hne]; exact h5
                | _ => exact trivial
              | _ => cases v <;> exact trivial
            | _ => exact trivial
          exact ⟨hR.ok, hR.heap, fun i cs' vs h1 h2 j c hj => by obtain ⟨h3, h4⟩ := h0.ownh i cs' vs h1 h2 j c hj; exact ⟨keep _ _ h3, h4⟩, fun t ht => ⟨(hR.env t ht).1, keep _ _ (h0.env t ht).2⟩, hR.plain, hR.size, hR.defers, hR.ext, hR.boxes, hR.bufs⟩
        have hcell : ∀ p, p < (olds ++ news).length → (G.setBuf w.drew.heap.size ⟨olds ++ news, cs.size⟩).cell w.drew.heap.size p = (olds ++ news)[p]? := fun p hp => by
          unfold Ghost.cell
          rw [if_neg (by have := h0.ok.size; show ¬ w.drew.heap.size < G.w0.heap.size; omega)]
          show (if w.drew.heap.size = w.drew.heap.size then _ else _ : Option Buf).bind _ = _
          rw [if_pos rfl]; rfl
        refine ⟨_, _, hrun, _, _, hE, rfl, hR2, ?_, ?_⟩
        · refine sees_joined w.heap.size 0 nc D hkk' hk2 (fun i e he j c hj => (hs i e he j c hj).ext hE) ho1' hnl (fun i e he j c hj => (hs2 i e he j c hj).ext hE) hsrc.one hge hcm (fun i j hi hj => ?_) (fun p hp => ?_)
          · have hp : i * k + j < es.length * k := by
              have : (i + 1) * k ≤ es.length * k := Nat.mul_le_mul_right k hi
              rw [Nat.add_mul, Nat.one_mul] at this
              omega
            rw [Nat.zero_add]
            refine (hcell _ (by rw [List.length_append]; omega)).trans ?_
            rw [List.getElem?_append_left (by omega), hoat _ hp]
            have e1 : (i * k + j) / k = i := by rw [Nat.mul_comm, Nat.mul_add_div hk0, Nat.div_eq_of_lt hj, Nat.add_zero]
            have e2 : (i * k + j) % k = j := by rw [Nat.mul_comm, Nat.mul_add_mod, Nat.mod_eq_of_lt hj]
            rw [e1, e2]
          · rw [Nat.zero_add]
            refine (hcell _ (by rw [List.length_append, hol]; omega)).trans ?_
            rw [List.getElem?_append_right (by omega), hol, show es.length * k + p - es.length * k = p by omega, List.getElem?_eq_getElem (by omega), List.getD_eq_getElem?_getD, List.getElem?_eq_getElem (by omega)]
            rfl
        · refine .inr ⟨w.heap.size, 0, ⟨olds ++ news, cs.size⟩, rfl, ?_, ?_, ?_, ?_, .inl ?_⟩
          · exact if_pos rfl
          · show (olds ++ news).length = _
            rw [List.length_append, hol, hnl, Nat.zero_add, Nat.add_mul]
          · show 0 + nc * k ≤ cs.size
            rw [hsz]; omega
          · exact if_pos rfl
          · cases hB : C.G0.bufs w.heap.size with
            | none => rfl
            | some B =>
              exfalso
              obtain ⟨m, hm⟩ := h.ext.bufs _ B hB
              have := (h.ok.buf _ _ hm).2.1
              omega
  | _ => rw [hsv] at hs; cases hs
end
end Go.Proofs.YtofkddajlgebjaaGreat.Ax
