/- Slices of a call's own whose elements have k cells each: what they hold, and appends of one element. No program is named here. -/
import Derived.Test.YtngmfgdoopkkdaaElems
import Derived.Test.YtngmfgdoopkkdaaHold
namespace Go.Proofs.Ytngmfgdoopkkdaa.By
open Go.RowKit Go

/-- A slice of the call's own that holds these elements, of k cells each. -/
def OwnE (E : TypeId) (k : Nat) (w : World) (base : Nat) (v : Value) (es : List (List Value)) : Prop :=
  (∀ e ∈ es, e.length = k) ∧ w.ownsRow base E k v es.length es.flatten

theorem flat_at (k : Nat) : ∀ (es : List (List Value)) (i j : Nat) (u : Value), (∀ e ∈ es, e.length = k) → (es.getD i [])[j]? = some u → es.flatten[i * k + j]? = some u
  | [], i, j, u, _, h => by simp at h
  | e :: es, 0, j, u, hk, h => by
    have h' : e[j]? = some u := by simpa using h
    have hj : j < e.length := (List.getElem?_eq_some_iff.1 h').1
    rw [Nat.zero_mul, Nat.zero_add, List.flatten_cons, List.getElem?_append_left hj, h']
  | e :: es, i + 1, j, u, hk, h => by
    have h' : (es.getD i [])[j]? = some u := by simpa using h
    have he := hk e (List.mem_cons_self ..)
    have ih := flat_at k es i j u (fun e he => hk e (List.mem_cons_of_mem _ he)) h'
    rw [List.flatten_cons, Nat.succ_mul, List.getElem?_append_right (by omega), he]
    rw [show i * k + k + j - k = i * k + j by omega]
    exact ih

section
variable {E : TypeId} {k : Nat} {w w' : World} {base : Nat} {v : Value} {es : List (List Value)}
theorem OwnE.nil (E : TypeId) (k : Nat) (w : World) (base : Nat) : OwnE E k w base (.slice none 0 0) [] := ⟨fun _ h => (by cases h), World.ownsRow_nil _ _ _ _⟩
theorem OwnE.form (h : OwnE E k w base v es) : ∃ a c, v = .slice a es.length c ∧ Elems w w.heap.size a k es ∧ (a = none → c = 0) ∧ es.length ≤ c ∧ c ≤ maxLen := by
  obtain ⟨hk, h⟩ := h
  have h0 := h
  obtain ⟨_, h2⟩ := h
  rcases h2 with ⟨rfl, hn⟩ | ⟨g, cap, cur, rfl, hg, hh, hnc, hcm, hcs, ht⟩
  · exact ⟨none, 0, by rw [hn], fun hp => by omega, fun _ => rfl, by omega, by simp [maxLen]⟩
  · refine ⟨_, _, rfl, fun hp => ⟨g, 0, rfl, (Array.getElem?_eq_some_iff.1 hh).1, fun i hi j u hu => ?_⟩, fun hh => (by cases hh), hnc, hcm⟩
    have := World.ownsRow.cells h0 (g := g) rfl (i * k + j) u (flat_at k es i j u hk hu)
    rw [add_plain] at this
    rw [show 0 + i * k + j = 0 + (i * k + j) by omega]
    exact this
theorem OwnE.block (h : OwnE E k w base v es) : ∀ b, v.ownBlock = some b → base ≤ b ∧ b < w.heap.size := World.ownsRow.lt h.2
theorem OwnE.kept {row : Option Nat} (h : OwnE E k w base v es) (hg : w.grownBy w' row) (hr : ∀ b, row = some b → b < base) : OwnE E k w' base v es := by
  refine ⟨h.1, World.ownsRow.kept h.2 hg ?_⟩
  cases hv : v.ownBlock with
  | none => exact .inl rfl
  | some b =>
    right
    intro he
    have := hr b he.symm
    have := (h.block b hv).1
    omega
theorem OwnE.only {g : Nat} (h : OwnE E k w base v es) (ho : Only g w w') (hg : g < base) : OwnE E k w' base v es := h.kept ho fun b hb => by injection hb with hb; omega
theorem OwnE.still (h : OwnE E k w base v es) (ho : Still w w') : OwnE E k w' base v es := h.kept ho fun b hb => by cases hb
theorem OwnE.alloc (h : OwnE E k w base v es) (o : Obj) : OwnE E k (w.alloc o) base v es := ⟨h.1, World.ownsRow.alloc h.2 o⟩
theorem OwnE.rebase {base' : Nat} (h : OwnE E k w base v es) (hb : base' ≤ base) : OwnE E k w base' v es := by
  refine ⟨h.1, h.2.1, ?_⟩
  rcases h.2.2 with h2 | ⟨g, cap, cur, hv, hg, r⟩
  · exact .inl h2
  · exact .inr ⟨g, cap, cur, hv, by omega, r⟩
theorem OwnE.below_grown (h : OwnE E k w base v es) {W : World} (hb : Below base W w) (hbase : base ≤ w.heap.size) (hg : w.grownBy w' v.ownBlock) : Below base W w' := hb.grown hg hbase fun b hb => (h.block b hb).1
end

/-- What follows turns nothing that was there at first. -/
theorem Only.on {g : Nat} {w w1 w2 : World} (h : Only g w w1) (hb : Below w.heap.size w1 w2) : Only g w w2 :=
  ⟨hb.os.trans h.os, hb.tape.trans h.tape, hb.output.trans h.output, Nat.le_trans h.size hb.size, fun k hk hn => (hb.block k hk).trans (h.block k hk hn)⟩
theorem Still.on {w w1 w2 : World} (h : Still w w1) (hb : Below w.heap.size w1 w2) : Still w w2 :=
  ⟨hb.os.trans h.os, hb.tape.trans h.tape, hb.output.trans h.output, Nat.le_trans h.size hb.size, fun k hk hn => (hb.block k hk).trans (h.block k hk hn)⟩

/-- Draws turn nothing. -/
theorem Below.drawn {B : Nat} {a w : World} (h : Below B a w) (k : Nat) : Below B a (w.drewN k) := ⟨h.os, h.tape, h.output, h.size, h.block⟩
theorem Only.drawn {w w' : World} {g : Nat} (h : Only g w w') (n : Nat) : Only g w (w'.drewN n) := ⟨h.os, h.tape, h.output, h.size, h.block⟩
theorem Blk.drawn {w : World} {g : Nat} {T : TypeId} {vs : List Value} (h : Blk w g T vs) (n : Nat) : Blk (w.drewN n) g T vs := h
theorem quietly {P : Program} {f : FuncId} {args : Array Value} {w : World} {k : Nat} {v : Value} (h : Calls P f args (w.drewN k) fun e w' => e = .returned v ∧ w.drewN k = w') :
    Calls P f args (w.drewN k) fun e w' => e = .returned v ∧ w' = w.drewN k := h.mono fun _ _ hh => ⟨hh.1, hh.2.symm⟩

/-- A slice that a literal lays: one element. -/
theorem elems_lit {w : World} {E : TypeId} (el : List Value) {B : Nat} (hB : w.heap.size < B) : Elems (w.alloc (.cells el.toArray E)) B (some ⟨w.heap.size, 0, none⟩) el.length [el] := fun _ =>
  ⟨w.heap.size, 0, rfl, hB, fun i hi j u hu => by
    have hi0 : i = 0 := by simp at hi; exact hi
    subst hi0
    rw [show 0 + 0 * el.length + j = j by omega, cell_of_row _ _ j _ E (0, 0) (heap_alloc_new w _)]
    simpa using hu⟩

/-- append of one element onto it: the element lies in a new block. -/
theorem run_append_elem {P : Program} {w0 : World} (t ty e : TypeId) (i : TypeInfo) (z : Value) (k bytes : Nat) (ht : P.underlying t = some (.slice e)) (hi : P.info? e = some i) (hz : i.zero = some z)
    (hsize : i.size = k) (hby : i.bytes = bytes) (hzs : z.cells.size = k) (hsz : 0 < k) {base : Nat} {v : Value} {es : List (List Value)} (el : List Value) (hown : OwnE e k w0 base v es) (hel : el.length = k) (h1 : ∀ u ∈ el, u.oneCell' = true)
    (hfit : es.length + 1 ≤ 4294967296) (hb32 : bytes ≤ 1024) (hbase : base ≤ w0.heap.size) :
    ∃ v' w', (Builtin.append_ #[t, t] ty #[v, .slice (some ⟨w0.heap.size, 0, none⟩) 1 1]).run P (w0.alloc (.cells el.toArray e)) = .ok v' w' ∧ OwnE e k w' base v' (es ++ [el]) ∧ w0.grownBy w' v.ownBlock := by
  have hown1 : OwnE e k (w0.alloc (.cells el.toArray e)) base v es := hown.alloc _
  have hbb : (es.length + 1) * bytes ≤ 140737488355328 := by
    have h1 : (es.length + 1) * bytes ≤ 4294967296 * 1024 := Nat.mul_le_mul hfit hb32
    omega
  obtain ⟨v', w', hr, h2, h3, _, _⟩ := run_append_own_at (P := P) (w0.alloc (.cells el.toArray e)) base t ty e i z k bytes ht hi hz hsize hby hzs hsz v es.length es.flatten hown1.2 ⟨w0.heap.size, 0, none⟩ 1 1 el (by omega)
    (fun j u hu => by rw [add_plain, Nat.zero_add, cell_of_row _ _ j _ e (0, 0) (heap_alloc_new w0 _)]; simpa using hu) h1 (by unfold maxLen; omega) hbb (by rw [World.size_alloc]; omega)
  refine ⟨v', w', hr, ⟨fun e he => ?_, ?_⟩, ?_⟩
  · rcases List.mem_append.1 he with he | he
    · exact hown.1 e he
    · rw [List.mem_singleton.1 he]; exact hel
  · rw [List.flatten_append, List.length_append]
    simpa using h2
  · refine ⟨h3.os, h3.tape, h3.output, by have := h3.size; simp at this; omega, fun b hb hn => ?_⟩
    rw [h3.block b (by simp; omega) hn]
    exact heap_alloc_old w0 _ hb
theorem wp_append_elem {P : Program} {w0 : World} {o : Oper} {a : Act} {K : Act → World → Prop} {Q : Exit → Act → World → Prop} (s x : Operand) (t : TypeId)
    (ho : o.op = .call { callee := .builtin .append, args := #[s, x], argTypes := #[t, t] })
    (e : TypeId) (i : TypeInfo) (z : Value) (k bytes : Nat) (ht : P.underlying t = some (.slice e)) (hi : P.info? e = some i) (hz : i.zero = some z)
    (hsize : i.size = k) (hby : i.bytes = bytes) (hzs : z.cells.size = k) (hsz : 0 < k) (base : Nat) (v : Value) (es : List (List Value)) (el : List Value) (hs : a.eval s = v) (hown : OwnE e k w0 base v es) (hx : a.eval x = .slice (some ⟨w0.heap.size, 0, none⟩) 1 1)
    (hel : el.length = k) (h1 : ∀ u ∈ el, u.oneCell' = true) (hfit : es.length + 1 ≤ 4294967296) (hb32 : bytes ≤ 1024) (hbase : base ≤ w0.heap.size)
    (h : ∀ v' w', OwnE e k w' base v' (es ++ [el]) → w0.grownBy w' v.ownBlock → K (a.put o.dst v') w') : o.wp P a (w0.alloc (.cells el.toArray e)) K Q := by
  obtain ⟨v', w', hr, h2, h3⟩ := run_append_elem (P := P) (w0 := w0) t o.type e i z k bytes ht hi hz hsize hby hzs hsz el hown hel h1 hfit hb32 hbase
  unfold Oper.wp execOp
  simp only [ho, resolve, invoke, builtin, Sem.run_bind, Sem.run_pure, Result.andThen_ok, List.map_toArray, List.map_cons, List.map_nil, hs, hx, hr]
  exact h v' w' h2 h3
theorem wpList_append_elem {P : Program} {w0 : World} {ops : Array Oper} {rest : List Oper} {o : Oper} {a : Act} {Q : Exit → Act → World → Prop} (hgd : o.guard = none) (s x : Operand) (t : TypeId)
    (ho : o.op = .call { callee := .builtin .append, args := #[s, x], argTypes := #[t, t] })
    (e : TypeId) (i : TypeInfo) (z : Value) (k bytes : Nat) (ht : P.underlying t = some (.slice e)) (hi : P.info? e = some i) (hz : i.zero = some z)
    (hsize : i.size = k) (hby : i.bytes = bytes) (hzs : z.cells.size = k) (hsz : 0 < k) (base : Nat) (v : Value) (es : List (List Value)) (el : List Value) (hs : a.eval s = v) (hown : OwnE e k w0 base v es) (hx : a.eval x = .slice (some ⟨w0.heap.size, 0, none⟩) 1 1)
    (hel : el.length = k) (h1 : ∀ u ∈ el, u.oneCell' = true) (hfit : es.length + 1 ≤ 4294967296) (hb32 : bytes ≤ 1024) (hbase : base ≤ w0.heap.size)
    (h : ∀ v' w', OwnE e k w' base v' (es ++ [el]) → w0.grownBy w' v.ownBlock → wpList P ops Q rest (a.put o.dst v') w') : wpList P ops Q (o :: rest) a (w0.alloc (.cells el.toArray e)) :=
  wpList_plain hgd fun _ hK => wp_append_elem s x t ho e i z k bytes ht hi hz hsize hby hzs hsz base v es el hs hown hx hel h1 hfit hb32 hbase fun v' w' h2 h3 => hK _ _ (h v' w' h2 h3)
theorem step_append_elem {P : Program} {w0 : World} {ops : Array Oper} {o : Oper} {a : Act} {K : Act → World → Prop} {Q : Exit → Act → World → Prop} {E : Prop} (hgd : o.guard = none) (s x : Operand) (t : TypeId)
    (ho : o.op = .call { callee := .builtin .append, args := #[s, x], argTypes := #[t, t] })
    (e : TypeId) (i : TypeInfo) (z : Value) (k bytes : Nat) (ht : P.underlying t = some (.slice e)) (hi : P.info? e = some i) (hz : i.zero = some z)
    (hsize : i.size = k) (hby : i.bytes = bytes) (hzs : z.cells.size = k) (hsz : 0 < k) (base : Nat) (v : Value) (es : List (List Value)) (el : List Value) (hs : a.eval s = v) (hown : OwnE e k w0 base v es) (hx : a.eval x = .slice (some ⟨w0.heap.size, 0, none⟩) 1 1)
    (hel : el.length = k) (h1 : ∀ u ∈ el, u.oneCell' = true) (hfit : es.length + 1 ≤ 4294967296) (hb32 : bytes ≤ 1024) (hbase : base ≤ w0.heap.size)
    (h : ∀ v' w', OwnE e k w' base v' (es ++ [el]) → w0.grownBy w' v.ownBlock → K (a.put o.dst v') w') : if Region.wanted o (yielded ops a.tmps) = true then Oper.wp P o a (w0.alloc (.cells el.toArray e)) K Q else E := by
  have hw : Region.wanted o (yielded ops a.tmps) = true := by simp [Region.wanted, hgd]
  rw [if_pos hw]
  exact wp_append_elem s x t ho e i z k bytes ht hi hz hsize hby hzs hsz base v es el hs hown hx hel h1 hfit hb32 hbase h
end Go.Proofs.Ytngmfgdoopkkdaa.By
