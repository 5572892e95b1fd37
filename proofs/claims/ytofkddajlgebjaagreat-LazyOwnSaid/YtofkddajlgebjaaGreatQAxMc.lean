/- A call that turns the elements of a slice in place, where the slice lies in what is new: all that is known of memory but for what was known as the function began is forgotten. No program is named here. -/
import Derived.Test.YtofkddajlgebjaaGreatQAxYa
import Derived.Deep.RegionHeld3
import Derived.ControlIn
import Derived.Scope
import Derived.RangeFuncLeaves
import Derived.RangeFuncIn
import Derived.RangeFuncRecord
/- Maps over values without memory: the operations that make and change them. No program is named here. -/
namespace Go.Proofs.YtofkddajlgebjaaGreat.Ax
open Go.RowKit Go By
set_option linter.unusedVariables false
set_option linter.unusedSimpArgs false

/-- A new variable of another kind. -/
def Ghost.newKind (G : Ghost) (b : Nat) (κ : Kind) (vs : List Value) : Ghost := { G with boxes := G.boxes ++ [b], boxv := G.boxv ++ [vs], kr := fun x => if x = b then (some κ, 0) else G.kr x }
theorem WorldOk.newKind {G : Ghost} {w : World} (h : WorldOk G w) (κ : Kind) (vs : List Value) (hvs : vs.head? = some (.chan none)) : WorldOk (G.newKind w.heap.size κ vs) (w.alloc (κ.obj vs)) ∧ Ext G (G.newKind w.heap.size κ vs) := by
  have old : ∀ b, b < w.heap.size → (w.alloc (κ.obj vs)).heap[b]? = w.heap[b]? := fun b hb => heap_alloc_old w _ hb
  have oldc : ∀ b, b < w.heap.size → ∀ j, (w.alloc (κ.obj vs)).cell? ⟨b, j, none⟩ = w.cell? ⟨b, j, none⟩ ∧ (w.alloc (κ.obj vs)).frozen? ⟨b, j, none⟩ = w.frozen? ⟨b, j, none⟩ := fun b hb j =>
    ⟨World.cell?_of_block (a := ⟨b, j, none⟩) (old b hb), World.frozen?_of_block (a := ⟨b, j, none⟩) (old b hb)⟩
  have hL : (w.alloc (κ.obj vs)).heap[w.heap.size]? = some (κ.obj vs) := heap_alloc_new w _
  have hsz : (w.alloc (κ.obj vs)).heap.size = w.heap.size + 1 := by simp
  have hlow := h.below.size
  have at_ : ∀ i b us, (G.boxes ++ [w.heap.size])[i]? = some b → (G.boxv ++ [vs])[i]? = some us → (G.boxes[i]? = some b ∧ G.boxv[i]? = some us ∧ b < w.heap.size) ∨ (b = w.heap.size ∧ us = vs) := fun i b us h1 h2 => by
    by_cases hi : i < G.boxes.length
    · left
      rw [List.getElem?_append_left hi] at h1
      rw [List.getElem?_append_left (by rw [h.len]; exact hi)] at h2
      exact ⟨h1, h2, (h.boxlt h1).1⟩
    · right
      have hi2 : i = G.boxes.length := by
        have := (List.getElem?_eq_some_iff.1 h1).1
        simp at this; omega
      subst hi2
      simp at h1
      rw [← h.len] at h2
      simp at h2
      exact ⟨h1.symm, h2.symm⟩
  have krold : ∀ b, b < w.heap.size → (G.newKind w.heap.size κ vs).kr b = G.kr b := fun b hb => by
    show (if b = w.heap.size then _ else G.kr b) = _
    rw [if_neg (by omega)]
  have kold : ∀ b, b < w.heap.size → (G.newKind w.heap.size κ vs).kinds b = G.kinds b := fun b hb => congrArg Prod.fst (krold b hb)
  refine ⟨⟨h.below.alloc hlow _, fun b B hB => ?_, fun i b us h1 h2 => ?_, ⟨?_, h.dom⟩, by simp [Ghost.newKind, h.len], fun b o ho => ?_, fun i b us κ' h1 h2 h3 => ?_, fun b hb => ?_, fun b j hj => ?_⟩, rfl, fun b B hB => ⟨[], by show G.bufs b = _; rw [hB, List.append_nil]⟩, ⟨_, rfl⟩, fun b o ho => ho, fun i b hb => ⟨krold b (h.boxlt hb).1, rfl⟩⟩
  · obtain ⟨p1, p2, p3, p4, p5⟩ := h.buf b B hB
    exact ⟨p1, by rw [hsz]; omega, p3, fun j hj => by rw [(oldc b p2 j).1, (oldc b p2 j).2]; exact p4 j hj, fun j x hx => by rw [(oldc b p2 j).1]; exact p5 j x hx⟩
  · rcases at_ i b us h1 h2 with ⟨h3, h4, h5⟩ | ⟨rfl, rfl⟩
    · obtain ⟨p1, p2, p3, p4⟩ := h.box i b us h3 h4
      exact ⟨p1, by rw [hsz]; omega, p3, fun j x hx hkn => by rw [(oldc b p2 _).1, (oldc b p2 _).2]; exact p4 j x hx ((kold b h5).symm.trans hkn)⟩
    · refine ⟨hlow, by rw [hsz]; omega, fun _ => h.fresh, fun j x hx hkn => ?_⟩
      have hkn' : (if w.heap.size = w.heap.size then (some κ, 0) else G.kr w.heap.size).1 = none := hkn
      rw [if_pos rfl] at hkn'; cases hkn'
  · exact h.nodup.snoc h.len (fun i hi => by have := (h.boxlt hi).1; omega) vs
  · obtain ⟨p1, p2, p3⟩ := h.obj.obj b o ho
    exact ⟨(old b (Array.getElem?_eq_some_iff.1 p1).1).trans p1, p2, p3⟩
  · rcases at_ i b us h1 h2 with ⟨h4, h5, h6⟩ | ⟨rfl, rfl⟩
    · obtain ⟨p1, p2⟩ := h.obj.kbox i b us κ' h4 h5 ((kold b h6).symm.trans h3)
      exact ⟨(old b h6).trans p1, p2⟩
    · have h3' : (if w.heap.size = w.heap.size then (some κ, 0) else G.kr w.heap.size).1 = some κ' := h3
      rw [if_pos rfl] at h3'
      injection h3' with h3'; subst h3'
      exact ⟨hL, hvs⟩
  · rw [hsz]
    have hb' : (if b = w.heap.size then (some κ, 0) else G.kr b).1 ≠ none := hb
    split at hb'
    · omega
    · have := h.obj.kind b hb'; omega
  · have hj' : j < (if b = w.heap.size then (some κ, 0) else G.kr b).2 := hj
    split at hj'
    · exact absurd hj' (Nat.not_lt_zero _)
    · have p := h.obj.room b j hj'
      have := cell_lt p.1
      rw [(oldc b this j).1, (oldc b this j).2]; exact p
section
variable {P : Program} {C : Ctx} {N : Nat} {G : Ghost} {cls : Nat → Id} {s : St} {a : Act} {w : World} {Q : Exit → Act → World → Prop}
theorem Rel.turnBox (h : Rel C N G cls s a w) {i b : Nat} {κ : Kind} (hb : G.boxes[i]? = some b) (hk : G.kinds b = some κ) {us : List Value} (hus : G.boxv[i]? = some us) {cs : List AV} {vs : List Value} (hs : SeesL G cs vs) (h1 : ∀ x ∈ vs, x.oneCell' = true) (hid : ∀ c ∈ cs, c.idOf = none) (hhd : vs.head? = some (.chan none)) :
    Rel C N (G.setBox i vs) cls { s with heap := s.heap.set i cs, wr := i :: s.wr } a (w.putObj b (κ.obj vs)) ∧ Stays G (G.setBox i vs) s { s with heap := s.heap.set i cs, wr := i :: s.wr } := by
  have hE := Ext.setBox (G := G) i vs
  have hil2 : i < G.boxv.length := (List.getElem?_eq_some_iff.1 hus).1
  have hil : i < s.heap.length := by rw [h.heap.1]; exact hil2
  have at_ : ∀ (i' : Nat) (ds : List AV) (ws : List Value), (s.heap.set i cs)[i']? = some ds → (G.boxv.set i vs)[i']? = some ws → (i' = i ∧ ds = cs ∧ ws = vs) ∨ (i' ≠ i ∧ s.heap[i']? = some ds ∧ G.boxv[i']? = some ws) := fun i' ds ws e1 e2 => by
    rw [List.getElem?_set] at e1 e2
    by_cases hi : i = i'
    · subst hi
      rw [if_pos rfl, if_pos hil] at e1
      rw [if_pos rfl, if_pos hil2] at e2
      injection e1 with e1; injection e2 with e2
      exact .inl ⟨rfl, e1.symm, e2.symm⟩
    · rw [if_neg hi] at e1 e2
      exact .inr ⟨fun hh => hi hh.symm, e1, e2⟩
  refine ⟨h.next hE (h.ok.turnK hb hk hus vs hhd) (fun b B hB => hB) ⟨by simp [Ghost.setBox, h.heap.1], fun i' ds ws e1 e2 => ?_⟩ (fun i' ds ws e1 e2 j c hj => ?_) (fun i' hi' hn => ?_), ⟨hE, [i], rfl, fun i' hi' hn => ?_⟩⟩
  · rcases at_ i' ds ws e1 e2 with ⟨rfl, rfl, rfl⟩ | ⟨_, h3, h4⟩
    · exact ⟨hs.1, h1, fun j c hj => (hs.2 j c hj).ext hE⟩
    · obtain ⟨h5, h6, h7⟩ := h.heap.2 i' ds ws h3 h4
      exact ⟨h5, h6, fun j c hj => (h7 j c hj).ext hE⟩
  · rcases at_ i' ds ws e1 e2 with ⟨rfl, rfl, rfl⟩ | ⟨_, h3, h4⟩
    · have := hid c (List.mem_of_getElem? hj)
      exact ⟨.none _ this, fun x hx => by rw [this] at hx; cases hx⟩
    · obtain ⟨h5, h6⟩ := h.ownh i' ds ws h3 h4 j c hj
      exact ⟨h5.keep fun b B c hb _ => hb, h6⟩
  · have hne : i ≠ i' := fun e => hn (by subst e; exact List.mem_cons_self ..)
    show (G.boxv.set i _)[i']? = _
    rw [List.getElem?_set, if_neg hne]
    exact h.boxes i' hi' fun hh => hn (List.mem_cons_of_mem _ hh)
  · have hne : i ≠ i' := fun hh => by subst hh; exact hn (List.mem_cons_self ..)
    show (G.boxv.set i _)[i']? = _
    rw [List.getElem?_set_ne hne]
theorem Rel.newKind (h : Rel C N G cls s a w) (κ : Kind) {cs : List AV} {vs : List Value} (hs : SeesL G cs vs) (h1 : ∀ x ∈ vs, x.oneCell' = true) (hi : ∀ c ∈ cs, c.idOf = none) (hhd : vs.head? = some (.chan none)) :
    Rel C N (G.newKind w.heap.size κ vs) cls { s with heap := s.heap ++ [cs] } a (w.alloc (κ.obj vs)) ∧ (G.newKind w.heap.size κ vs).boxes[s.heap.length]? = some w.heap.size ∧ (G.newKind w.heap.size κ vs).kinds w.heap.size = some κ ∧ Ext G (G.newKind w.heap.size κ vs) := by
  obtain ⟨hW, hE⟩ := h.ok.newKind κ vs hhd
  have at_ : ∀ (i : Nat) (ds : List AV) (us : List Value), (s.heap ++ [cs])[i]? = some ds → (G.boxv ++ [vs])[i]? = some us → (s.heap[i]? = some ds ∧ G.boxv[i]? = some us) ∨ (ds = cs ∧ us = vs) := fun i ds us h1 h2 => by
    by_cases hl : i < s.heap.length
    · left
      rw [List.getElem?_append_left hl] at h1
      rw [List.getElem?_append_left (by rw [← h.heap.1]; exact hl)] at h2
      exact ⟨h1, h2⟩
    · right
      have hl2 : i = s.heap.length := by
        have := (List.getElem?_eq_some_iff.1 h1).1
        simp at this; omega
      subst hl2
      simp at h1
      rw [h.heap.1] at h2
      simp at h2
      exact ⟨h1.symm, h2.symm⟩
  refine ⟨h.next hE hW (fun b B hb => hb) ⟨by simp [Ghost.newKind, h.heap.1], fun i ds us h8 h9 => ?_⟩ (fun i ds us h8 h9 j c hj => ?_) (fun i hi2 hw => ?_), ?_, ?_, hE⟩
  · rcases at_ i ds us h8 h9 with ⟨h3, h4⟩ | ⟨rfl, rfl⟩
    · obtain ⟨h5, h7, h6⟩ := h.heap.2 i ds us h3 h4
      exact ⟨h5, h7, fun j c hj => (h6 j c hj).ext hE⟩
    · exact ⟨hs.1, h1, fun j c hj => (hs.2 j c hj).ext hE⟩
  · rcases at_ i ds us h8 h9 with ⟨h3, h4⟩ | ⟨rfl, rfl⟩
    · obtain ⟨h5, h6⟩ := h.ownh i ds us h3 h4 j c hj
      exact ⟨h5.keep fun b B c hb _ => hb, h6⟩
    · have := hi c (List.mem_of_getElem? hj)
      exact ⟨.none _ this, fun x hx => by rw [this] at hx; cases hx⟩
  · obtain ⟨m, hm⟩ := h.ext.boxes
    have hlt : i < G.boxv.length := by
      have h1 := h.ok.len
      rw [hm] at h1
      simp at h1
      by_cases hh : i < G.boxv.length
      · exact hh
      · have h2 := h.boxes i hi2 hw
        rw [List.getElem?_eq_none (by omega), List.getElem?_eq_getElem hi2] at h2
        cases h2
    show (G.boxv ++ [vs])[i]? = _
    rw [List.getElem?_append_left hlt]
    exact h.boxes i hi2 hw
  · show (G.boxes ++ [w.heap.size])[s.heap.length]? = _
    rw [h.heapLen]; simp
  · show (if w.heap.size = w.heap.size then (some κ, 0) else _ : Option Kind × Nat).1 = _
    rw [if_pos rfl]
theorem newKind_stays {b : Nat} {κ : Kind} {vs : List Value} (hE : Ext G (G.newKind b κ vs)) (s' : St) (hw : s'.wr = s.wr) : Stays G (G.newKind b κ vs) s s' :=
  ⟨hE, [], hw, fun i hi _ => by show (G.boxv ++ [vs])[i]? = _; rw [List.getElem?_append_left hi]⟩
theorem mapC_id {clock : Nat} {l : List AEnt} (h : ∀ e ∈ l, ∀ c ∈ e.cells, c.idOf = none) : ∀ c ∈ mapC clock l, c.idOf = none := by
  intro c hc
  unfold mapC at hc
  simp only [List.mem_cons, List.mem_flatMap] at hc
  rcases hc with rfl | rfl | ⟨e, he, hc⟩
  · rfl
  · rfl
  · unfold AEnt.avs at hc
    simp only [List.mem_cons] at hc
    rcases hc with rfl | rfl | hc
    · rfl
    · rfl
    · exact h e he c hc
theorem mapVals_one {clock : Nat} {m : List Ent} (hk : ∀ x ∈ m, x.key.oneCell' = true) (hc : ∀ x ∈ m, ∀ u ∈ x.cells, u.oneCell' = true) : ∀ u ∈ mapVals clock m, u.oneCell' = true := by
  intro u hu
  unfold mapVals at hu
  simp only [List.mem_cons, List.mem_flatMap] at hu
  rcases hu with rfl | rfl | ⟨x, hx, hu⟩
  · rfl
  · rfl
  · unfold Ent.vals at hu
    simp only [List.mem_cons] at hu
    rcases hu with rfl | rfl | hu
    · exact hk x hx
    · rfl
    · exact hc x hx u hu
/-- An element's cells, as the model has them. -/
theorem elC_sees {n : Nat} {one : Bool} {x : AV} {v : Value} {cs : List AV} (h : Sees G x v) (hc : elC n one x = some cs) (hn : one = true → n = 1) : ∃ us, SeesL G cs us ∧ us.length = n ∧ (∀ u ∈ us, u.oneCell' = true) ∧ v = elV one us ∧ ∀ c ∈ cs, c.idOf = none := by
  unfold elC at hc
  cases one with
  | true =>
    rw [if_pos rfl] at hc
    split at hc
    · rename_i h1
      injection hc with hc; subst hc
      refine ⟨[v], SeesL.nil.cons h.unown, by rw [hn rfl]; rfl, fun u hu => ?_, rfl, fun c hc => ?_⟩
      · rw [List.mem_singleton.1 hu]; exact one_cell h h1
      · rw [List.mem_singleton.1 hc]; exact AV.idOf_unown _
    · cases hc
  | false =>
    rw [if_neg (by simp)] at hc
    split at hc
    · rename_i ds
      split at hc
      · rename_i hl
        injection hc with hc; subst hc
        obtain ⟨us, rfl, h1, h2, h3⟩ := h.inv_agg
        have : SeesL G ds us := ⟨h1, h2⟩
        exact ⟨us, this.map_unown, by rw [h1, hl], h3, rfl, fun c hc => by obtain ⟨d, _, rfl⟩ := List.mem_map.1 hc; exact AV.idOf_unown d⟩
      · cases hc
    · cases hc
end
section
variable {P : Program} {C : Ctx} {N : Nat} {s : St} {Q : Exit → Act → World → Prop}
theorem eff_makeMap (o : Oper) (t : TypeId) (ho : o.op = .makeMap t none) (n : Nat) (one : Bool) (hf : fitsAll N o = true) : OpS P C N s ({ s with heap := s.heap ++ [mapC 0 []] }.puts o.dst (.mp s.heap.length n one) false) o Q := fun G cls a w h => by
  have hr : (execOp a.eval o).run P w = .ok (.value (.map (some w.heap.size))) (w.alloc (.map #[] 0)) := by
    have := run_makeMap (P := P) (w := w) t
    simp only [execOp, ho, Option.map_none, Sem.run_bind, this, Result.andThen_ok, Sem.run_pure]
  unfold Oper.wp
  rw [hr]
  obtain ⟨h1, h2, h3, h4⟩ := h.newKind (.map n one) (cs := mapC 0 []) (vs := mapVals 0 []) (map_sees (m := []) trivial) (mapVals_one (fun x hx => by cases hx) (fun x hx => by cases hx)) (mapC_id fun e he => by cases he) rfl
  have e : (Kind.map n one).obj (mapVals 0 []) = .map #[] 0 := rfl
  rw [e] at h1
  exact ⟨_, cls, h1.puts (fits_dst hf) (.mp _ _ _ _ h2 h3) (.none _ rfl) (fun _ => rfl), newKind_stays h4 _ (puts_wr _ _ _ _)⟩
theorem put_cells {n : Nat} {k : Value} {clock : Nat} {us : List Value} {m : List Ent} (hu : us.length = n) (hm : ∀ x ∈ m, x.cells.length = n) : ∀ x ∈ (Ent.put k clock us m).1, x.cells.length = n := by
  intro x hx
  unfold Ent.put at hx
  split at hx
  · rcases List.mem_or_eq_of_mem_set hx with h | rfl
    · exact hm x h
    · exact hu
  · rcases List.mem_append.1 hx with h | h
    · exact hm x h
    · rw [List.mem_singleton.1 h]; exact hu
theorem put_all {p : Ent → Prop} {k : Value} {clock : Nat} {us : List Value} {m : List Ent} (hu : ∀ b, p ⟨k, b, us⟩) (hm : ∀ x ∈ m, p x) : ∀ x ∈ (Ent.put k clock us m).1, p x := by
  intro x hx
  unfold Ent.put at hx
  split at hx
  · rcases List.mem_or_eq_of_mem_set hx with h | rfl
    · exact hm x h
    · exact hu _
  · rcases List.mem_append.1 hx with h | h
    · exact hm x h
    · rw [List.mem_singleton.1 h]; exact hu _
theorem aput_all {p : AEnt → Prop} {k : Value} {clock : Nat} {us : List AV} {m : List AEnt} (hu : ∀ b, p ⟨k, b, us⟩) (hm : ∀ x ∈ m, p x) : ∀ x ∈ (AEnt.put k clock us m).1, p x := by
  intro x hx
  unfold AEnt.put at hx
  split at hx
  · rcases List.mem_or_eq_of_mem_set hx with h | rfl
    · exact hm x h
    · exact hu _
  · rcases List.mem_append.1 hx with h | h
    · exact hm x h
    · rw [List.mem_singleton.1 h]; exact hu _
theorem del_mem {k : Value} {m : List Ent} : ∀ x ∈ Ent.del k m, x ∈ m := by
  intro x hx
  unfold Ent.del at hx
  split at hx
  · exact List.mem_of_mem_eraseIdx hx
  · exact hx
theorem adel_mem {k : Value} {m : List AEnt} : ∀ x ∈ AEnt.del k m, x ∈ m := by
  intro x hx
  unfold AEnt.del at hx
  split at hx
  · exact List.mem_of_mem_eraseIdx hx
  · exact hx
theorem eff_mapUpd (o : Oper) (t : TypeId) (m k x : Operand) (ho : o.op = .mapUpdate t m k x ∨ o.op = .insert t m k x) {M : MapT} (hM : mapT P t = some M) (K : St → List Nat → Prop) (hx : xmapUpd s M.ks M.n M.one o.dst (s.get m) (s.get k) (s.get x) K) (hf : fitsAll N o = true) : ∃ s' l, K s' l ∧ OpS P C N s s' o Q := by
  obtain ⟨kt, et, d, hT⟩ := mapT_spec hM
  unfold xmapUpd at hx
  split at hx
  · rename_i i n' one' kv hgm hgk
    obtain ⟨⟨e1, e2⟩, hkv, hx⟩ := hx
    subst e1 e2
    unfold onSome at hx
    split at hx
    · rename_i p hp
      obtain ⟨hks, hx⟩ := hx
      split at hx
      · rename_i cs hcs
        refine ⟨_, _, hx, fun G cls a w h => ?_⟩
        have gm := h.get (fits_mem hf (show m ∈ o.op.operands.toList by rcases ho with ho | ho <;> rw [ho] <;> simp [Op.operands]))
        have gk := h.get (fits_mem hf (show k ∈ o.op.operands.toList by rcases ho with ho | ho <;> rw [ho] <;> simp [Op.operands]))
        have gx := h.get (fits_mem hf (show x ∈ o.op.operands.toList by rcases ho with ho | ho <;> rw [ho] <;> simp [Op.operands]))
        rw [hgm] at gm
        rw [hgk] at gk
        obtain ⟨b, ex, hb, hkb⟩ := gm.inv_mp
        have ek := gk.inv_v
        obtain ⟨hc, hn, l, hv, hm, hone, hkone, hw⟩ := h.mapHere hb hkb hp
        obtain ⟨us, hus, hul, hu1, hve, huid⟩ := elC_sees gx hcs hT.n1
        have hheap := hw hT.pos G w (Ext.refl G) h.ok rfl
        have hkey := keysOk_of hm hks hT.key
        have hr := run_mapUpdate (P := P) hT.t hT.k (hT.key _ hkv) hheap hkey us
        obtain ⟨hput, hclk⟩ := hm.put kv p.1 hus
        have hcells := put_cells (k := kv) (clock := p.1) hul (hm.cells hn)
        have hobj := mapVals_obj M.n M.one (AEnt.put kv p.1 cs p.2).2 (Ent.put kv p.1 us l).1 fun x hx => ⟨hcells x hx, hT.pos⟩
        have hrun : (execOp a.eval o).run P w = .ok .skip (w.putObj b ((Kind.map M.n M.one).obj (mapVals (AEnt.put kv p.1 cs p.2).2 (Ent.put kv p.1 us l).1))) := by
          rw [hobj, hclk]
          have hr' : (Instr.mapUpdate t (a.eval m) (a.eval k) (a.eval x)).run P w = .ok () (w.putObj b (.map ((Ent.put kv p.1 us l).1.map (Ent.entry M.one)).toArray (Ent.put kv p.1 us l).2)) := by
            rw [ex, ek, hve]; exact hr
          rcases ho with ho | ho <;> simp only [execOp, ho, Sem.run_bind, hr', Result.andThen_ok, Sem.run_pure]
        unfold Oper.wp
        rw [hrun]
        have hidl : ∀ e ∈ p.2, ∀ c ∈ e.cells, c.idOf = none := fun e he => (hks e he).2
        obtain ⟨hR, hS⟩ := h.turnBox hb hkb hv (map_sees hput) (mapVals_one (put_all (fun b => one_key hkv) hkone) (put_all (fun b => hu1) hone)) (mapC_id (aput_all (p := fun e => ∀ c ∈ e.cells, c.idOf = none) (fun b => huid) hidl)) rfl
        exact ⟨_, cls, hR.puts (fits_dst hf) (.any _) trivial (fun _ => rfl), hS.wr_eq (puts_wr _ _ _ _)⟩
      · exact hx.elim
    · exact hx.elim
  · exact hx.elim
theorem eff_mapDel (o : Oper) (t : TypeId) (m k : Operand) (ts : List TypeId) (ho : o.op = .call { callee := .builtin .delete, args := #[m, k], argTypes := (t :: ts).toArray }) {M : MapT} (hM : mapT P t = some M) (K : St → List Nat → Prop) (hx : xmapDel s M.ks M.n M.one o.dst (s.get m) (s.get k) K) (hf : fitsAll N o = true) : ∃ s' l, K s' l ∧ OpS P C N s s' o Q := by
  obtain ⟨kt, et, d, hT⟩ := mapT_spec hM
  have hts : (t :: ts).toArray[0]? = some t := by simp
  unfold xmapDel at hx
  split at hx
  · rename_i kv hgm hgk
    obtain ⟨hkv, hx⟩ := hx
    refine ⟨_, _, hx, fun G cls a w h => ?_⟩
    have gm := h.get (fits_mem hf (show m ∈ o.op.operands.toList by rw [ho]; simp [Op.operands, Call.operands]))
    have gk := h.get (fits_mem hf (show k ∈ o.op.operands.toList by rw [ho]; simp [Op.operands, Call.operands]))
    rw [hgm] at gm
    rw [hgk] at gk
    have ex := gm.inv_v
    have ek := gk.inv_v
    have hck := run_checkKey (P := P) (w := w) hT.k (hT.key _ hkv) true
    have e0 : (#[Value.map none, kv] : Array Value)[0]? = some (.map none) := rfl
    have e1 : (#[Value.map none, kv] : Array Value)[1]? = some kv := rfl
    have hr : (Builtin.delete_ (t :: ts).toArray o.type #[.map none, kv]).run P w = .ok (.tuple #[]) w := by
      unfold Builtin.delete_
      simp only [hts, e0, e1, Sem.run_bind, run_underlying hT.t, Result.andThen_ok, hck, Sem.run_pure]
    have hrun : (execOp a.eval o).run P w = .ok (.value (.tuple #[])) w := by
      simp only [execOp, ho, resolve, invoke, builtin, Sem.run_bind, Sem.run_pure, Result.andThen_ok, List.map_toArray, Array.map_map]
      simp only [List.map_cons, List.map_nil, ex, ek, hr, Result.andThen_ok]
    unfold Oper.wp
    rw [hrun]
    exact ⟨G, cls, h.puts (fits_dst hf) (.any _) trivial (fun _ => rfl), Stays.same (puts_wr _ _ _ _)⟩
  · rename_i i n' one' kv hgm hgk
    obtain ⟨⟨e1, e2⟩, hkv, hx⟩ := hx
    subst e1 e2
    unfold onSome at hx
    split at hx
    · rename_i p hp
      obtain ⟨hks, hx⟩ := hx
      refine ⟨_, _, hx, fun G cls a w h => ?_⟩
      have gm := h.get (fits_mem hf (show m ∈ o.op.operands.toList by rw [ho]; simp [Op.operands, Call.operands]))
      have gk := h.get (fits_mem hf (show k ∈ o.op.operands.toList by rw [ho]; simp [Op.operands, Call.operands]))
      rw [hgm] at gm
      rw [hgk] at gk
      obtain ⟨b, ex, hb, hkb⟩ := gm.inv_mp
      have ek := gk.inv_v
      obtain ⟨hc, hn, l, hv, hm, hone, hkone, hw⟩ := h.mapHere hb hkb hp
      have hheap := hw hT.pos G w (Ext.refl G) h.ok rfl
      have hkey := keysOk_of hm hks hT.key
      have hr := run_delete (P := P) hT.t hT.k (hT.key _ hkv) hheap hkey (t :: ts).toArray hts o.type
      have hdel := hm.del kv
      have hobj := mapVals_obj M.n M.one p.1 (Ent.del kv l) fun x hx => ⟨hm.cells hn x (del_mem x hx), hT.pos⟩
      have hrun : (execOp a.eval o).run P w = .ok (.value (.tuple #[])) (w.putObj b ((Kind.map M.n M.one).obj (mapVals p.1 (Ent.del kv l)))) := by
        rw [hobj]
        simp only [execOp, ho, resolve, invoke, builtin, Sem.run_bind, Sem.run_pure, Result.andThen_ok, List.map_toArray, Array.map_map]
        simp only [List.map_cons, List.map_nil, ex, ek, hr, Result.andThen_ok]
      unfold Oper.wp
      rw [hrun]
      obtain ⟨hR, hS⟩ := h.turnBox hb hkb hv (map_sees hdel) (mapVals_one (fun x hx => hkone x (del_mem x hx)) (fun x hx => hone x (del_mem x hx))) (mapC_id fun e he => (hks e (adel_mem e he)).2) rfl
      exact ⟨_, cls, hR.puts (fits_dst hf) (.any _) trivial (fun _ => rfl), hS.wr_eq (puts_wr _ _ _ _)⟩
    · exact hx.elim
  · exact hx.elim
theorem run_clear_map {w : World} {t kt et : TypeId} (ht : P.underlying t = some (.map kt et)) {b : Nat} {es : Array MapEntry} {c : Nat} (hb : w.heap[b]? = some (.map es c)) (ty : TypeId) : (Builtin.clear_ #[t] ty #[.map (some b)]).run P w = .ok (.tuple #[]) (w.putObj b (.map #[] c)) := by
  have hg : (getObj b).run P w = .ok (.map es c) w := by simp [getObj, Sem.run, hb]
  have hs : ∀ o, (setObj b o).run P w = .ok () (w.putObj b o) := fun o => by simp [setObj, Sem.run, hb, World.putObj]
  have e0 : (#[t] : Array TypeId)[0]? = some t := rfl
  have e1 : (#[Value.map (some b)] : Array Value)[0]? = some (.map (some b)) := rfl
  unfold Builtin.clear_
  simp only [e0, e1, Sem.run_bind, run_underlying ht, Result.andThen_ok, hg, hs, Sem.run_pure]
theorem eff_clearM (o : Oper) (t : TypeId) (m : Operand) (ho : o.op = .call { callee := .builtin .clear, args := #[m], argTypes := #[t] }) {M : MapT} (hM : mapT P t = some M) (K : St → List Nat → Prop) (hx : xclearM s M.n M.one o.dst (s.get m) K) (hf : fitsAll N o = true) : ∃ s' l, K s' l ∧ OpS P C N s s' o Q := by
  obtain ⟨kt, et, d, hT⟩ := mapT_spec hM
  unfold xclearM at hx
  split at hx
  · rename_i hgm
    refine ⟨_, _, hx, fun G cls a w h => ?_⟩
    have gm := h.get (fits_mem hf (show m ∈ o.op.operands.toList by rw [ho]; simp [Op.operands, Call.operands]))
    rw [hgm] at gm
    have ex := gm.inv_v
    have hr : (Builtin.clear_ #[t] o.type #[.map none]).run P w = .ok (.tuple #[]) w := by
      simp [Builtin.clear_, run_underlying hT.t]
    have hrun : (execOp a.eval o).run P w = .ok (.value (.tuple #[])) w := by
      simp [execOp, ho, resolve, invoke, builtin, ex, hr]
    unfold Oper.wp
    rw [hrun]
    exact ⟨G, cls, h.puts (fits_dst hf) (.any _) trivial (fun _ => rfl), Stays.same (puts_wr _ _ _ _)⟩
  · rename_i i n' one' hgm
    obtain ⟨⟨e1, e2⟩, hx⟩ := hx
    subst e1 e2
    unfold onSome at hx
    split at hx
    · rename_i p hp
      refine ⟨_, _, hx, fun G cls a w h => ?_⟩
      have gm := h.get (fits_mem hf (show m ∈ o.op.operands.toList by rw [ho]; simp [Op.operands, Call.operands]))
      rw [hgm] at gm
      obtain ⟨b, ex, hb, hkb⟩ := gm.inv_mp
      obtain ⟨hc, hn, l, hv, hm, hone, hkone, hw⟩ := h.mapHere hb hkb hp
      have hheap := hw hT.pos G w (Ext.refl G) h.ok rfl
      have hr := run_clear_map (P := P) hT.t hheap o.type
      have hobj := mapVals_obj M.n M.one p.1 ([] : List Ent) (fun x hx => by cases hx)
      have hrun : (execOp a.eval o).run P w = .ok (.value (.tuple #[])) (w.putObj b ((Kind.map M.n M.one).obj (mapVals p.1 []))) := by
        rw [hobj]
        simp [execOp, ho, resolve, invoke, builtin, ex, hr]
      unfold Oper.wp
      rw [hrun]
      have hnil : EntsS G [] [] := trivial
      obtain ⟨hR, hS⟩ := h.turnBox hb hkb hv (map_sees hnil) (mapVals_one (fun x hx => by cases hx) (fun x hx => by cases hx)) (mapC_id fun e he => by cases he) rfl
      exact ⟨_, cls, hR.puts (fits_dst hf) (.any _) trivial (fun _ => rfl), hS.wr_eq (puts_wr _ _ _ _)⟩
    · exact hx.elim
  · exact hx.elim
theorem eff_rangeM (o : Oper) (t : TypeId) (x : Operand) (ho : o.op = .range t x) {M : MapT} (hM : mapT P t = some M) (K : St → List Nat → Prop) (hx : xrangeM s M.n M.one o.dst (s.get x) K) (hf : fitsAll N o = true) : ∃ s' l, K s' l ∧ OpS P C N s s' o Q := by
  obtain ⟨kt, et, d, hT⟩ := mapT_spec hM
  unfold xrangeM at hx
  split at hx
  · rename_i hgx
    refine ⟨_, _, hx, fun G cls a w h => ?_⟩
    have gx := h.get (fits_mem hf (show x ∈ o.op.operands.toList by rw [ho]; simp [Op.operands]))
    rw [hgx] at gx
    have ex := gx.inv_v
    obtain ⟨h1, h2, h3, h4⟩ := h.newKind (.iter none) (cs := itC 0 0 []) (vs := itVals 0 0 []) (it_sees 0 0 []) (oneCell_itVals 0 0 []) (itC_id 0 0 []) rfl
    have hrun : (execOp a.eval o).run P w = .ok (.value (.pointer (some ⟨w.heap.size, 0, none⟩))) (w.alloc ((Kind.iter none).obj (itVals 0 0 []))) := by
      have := run_range_nilMap (P := P) w t kt et hT.t
      simp only [execOp, ho, ex, Sem.run_bind, this, Result.andThen_ok, Sem.run_pure]
      rfl
    unfold Oper.wp
    rw [hrun]
    exact ⟨_, cls, h1.puts (fits_dst hf) (.itr _ _ _ _ none none h2 h3 rfl) (.none _ rfl) (fun _ => rfl), newKind_stays h4 _ (puts_wr _ _ _ _)⟩
  · rename_i i n' one' hgx
    obtain ⟨⟨e1, e2⟩, hx⟩ := hx
    subst e1 e2
    unfold onSome at hx
    split at hx
    · rename_i p hp
      refine ⟨_, _, hx, fun G cls a w h => ?_⟩
      have gx := h.get (fits_mem hf (show x ∈ o.op.operands.toList by rw [ho]; simp [Op.operands]))
      rw [hgx] at gx
      obtain ⟨b, ex, hb, hkb⟩ := gx.inv_mp
      obtain ⟨hc, hn, l, hv, hm, hone, hkone, hw⟩ := h.mapHere hb hkb hp
      have hheap := hw hT.pos G w (Ext.refl G) h.ok rfl
      obtain ⟨h1, h2, h3, h4⟩ := h.newKind (.iter (some b)) (cs := itC p.1 p.1 []) (vs := itVals p.1 p.1 []) (it_sees _ _ _) (oneCell_itVals _ _ _) (itC_id _ _ _) rfl
      have hrun : (execOp a.eval o).run P w = .ok (.value (.pointer (some ⟨w.heap.size, 0, none⟩))) (w.alloc ((Kind.iter (some b)).obj (itVals p.1 p.1 []))) := by
        have := run_range_map (P := P) w t kt et b _ p.1 hT.t hheap
        rw [itVals_obj]
        simp only [execOp, ho, ex, Sem.run_bind, this, Result.andThen_ok, Sem.run_pure]
      unfold Oper.wp
      rw [hrun]
      exact ⟨_, cls, h1.puts (fits_dst hf) (.itr _ _ _ _ _ (some b) h2 h3 ⟨b, rfl, h4.box_at hb, (h4.kindsE hb).trans hkb⟩) (.none _ rfl) (fun _ => rfl), newKind_stays h4 _ (puts_wr _ _ _ _)⟩
    · exact hx.elim
  · exact hx.elim
theorem iter_obj (mb : Option Nat) (vs : List Value) : ∀ κ : Kind, κ = .iter mb → ∃ st sn ls, κ.obj vs = .mapIter mb st sn ls := by
  intro κ h
  unfold Kind.obj
  split <;> first | (injection h with h; subst h; exact ⟨_, _, _, rfl⟩) | cases h
/-- A loop over a map goes on, or is over. -/
theorem eff_next (o : Oper) (x : Operand) (ho : o.op = .next x false) (K : St → Prop) (hx : xnext s o.dst (s.get x) K) (hf : fitsAll N o = true) {G : Ghost} {cls : Nat → Id} {a : Act} {w : World} (h : Rel C N G cls s a w) :
    o.wp P a w (fun a' w' => ∃ s' G' cls', K s' ∧ Rel C N G' cls' s' a' w') Q := by
  have gx := h.get (fits_mem hf (show x ∈ o.op.operands.toList by rw [ho]; simp [Op.operands]))
  unfold xnext at hx
  split at hx
  · rename_i j n one hgx
    rw [hgx] at gx
    obtain ⟨b, mb, ex, hb, hkb, hmb⟩ := gx.inv_itr
    subst hmb
    have hlt : j < s.heap.length := by rw [h.heapLen]; exact (List.getElem?_eq_some_iff.1 hb).1
    obtain ⟨vs, hv, _, _⟩ := h.boxVals (List.getElem?_eq_getElem hlt)
    have hheap := (h.ok.obj.kbox j b vs _ hb hv hkb).1
    obtain ⟨st, sn, ls, hobj⟩ := iter_obj none vs _ rfl
    rw [hobj] at hheap
    have hg : (getObj b).run P w = .ok (.mapIter none st sn ls) w := by simp [getObj, Sem.run, hheap]
    have hrun : (execOp a.eval o).run P w = .ok (.value (.tuple #[.bool false])) w := by
      have : (Instr.next (.pointer (some ⟨b, 0, none⟩)) false o.type).run P w = .ok (.tuple #[.bool false]) w := by
        unfold Instr.next
        simp only [Sem.run_bind, hg, Result.andThen_ok, Sem.run_pure]
      simp only [execOp, ho, ex, Sem.run_bind, this, Result.andThen_ok, Sem.run_pure]
    unfold Oper.wp
    rw [hrun]
    exact ⟨_, G, cls, hx, h.puts (fits_dst hf) (.tup _ [_] rfl (SeesL.cons (.v _) SeesL.nil).2) (.none _ rfl) (fun _ => rfl)⟩
  · rename_i j i n one hgx
    rw [hgx] at gx
    obtain ⟨b, mb, ex, hb, hkb, b', rfl, hb', hkb'⟩ := gx.inv_itr
    unfold onSome at hx
    split at hx
    · rename_i q hq
      split at hx
      · rename_i p hp
        obtain ⟨hpos, hold, hsc, hover, hon⟩ := hx
        obtain ⟨hci, hvi, hwi⟩ := h.itHere hb hkb hq
        obtain ⟨hc, hn, l, hv, hm, hone, hkone, hw⟩ := h.mapHere hb' hkb' hp
        have w1 := hwi G w (Ext.refl G) h.ok rfl
        have w2 := hw hpos G w (Ext.refl G) h.ok rfl
        have hold2 : ∀ y ∈ (l.map (Ent.entry one)).toArray.toList, y.born < q.1 := fun y hy => by
          simp only [List.mem_map] at hy
          obtain ⟨z, hz, rfl⟩ := hy
          obtain ⟨e, he, h1⟩ := hm.mem z hz
          show z.born < _
          rw [h1.2.1]; exact hold e he
        have left_mem : ∀ y, y ∈ (leftOf (l.map (Ent.entry one)).toArray q.2.2.toArray).toList ↔ ∃ z ∈ l, z.entry one = y ∧ z.born ∉ q.2.2 := fun y => by
          unfold leftOf
          simp only [Array.toList_filter, List.mem_filter, List.mem_map]
          constructor
          · rintro ⟨⟨z, hz, rfl⟩, h2⟩
            refine ⟨z, hz, rfl, ?_⟩
            have : (Ent.entry one z).born = z.born := rfl
            rw [this] at h2
            simpa using h2
          · rintro ⟨z, hz, rfl, h2⟩
            refine ⟨⟨z, hz, rfl⟩, ?_⟩
            have : (Ent.entry one z).born = z.born := rfl
            rw [this]
            simpa using h2
        rcases run_next_at (P := P) w o.type b b' q.1 q.2.1 q.2.2.toArray _ p.1 w1 w2 hold2 hsc with ⟨h0, hr⟩ | ⟨y, hy, w0, hw0, hr⟩
        · have hrun : (execOp a.eval o).run P w = .ok (.value (.tuple #[.bool false])) w := by
            simp only [execOp, ho, ex, Sem.run_bind, hr, Result.andThen_ok, Sem.run_pure]
          unfold Oper.wp
          rw [hrun]
          refine ⟨_, G, cls, hover fun e he => ?_, h.puts (fits_dst hf) (.tup _ [_] rfl (SeesL.cons (.v _) SeesL.nil).2) (.none _ rfl) (fun _ => rfl)⟩
          obtain ⟨z, hz, h1⟩ := hm.mem' e he
          by_cases hin : e.born ∈ q.2.2
          · exact hin
          · exfalso
            have hz2 := (left_mem _).2 ⟨z, hz, rfl, by rw [h1.2.1]; exact hin⟩
            have he0 : leftOf (l.map (Ent.entry one)).toArray q.2.2.toArray = #[] := Array.eq_empty_of_size_eq_zero h0
            rw [he0] at hz2
            cases hz2
        · obtain ⟨z, hz, rfl, hzn⟩ := (left_mem y).1 hy
          obtain ⟨e, he, h1⟩ := hm.mem z hz
          have hwb : WorldOk G w0 ∧ Rel C N G cls s a w0 := by
            rcases hw0 with rfl | rfl
            · exact ⟨h.ok, h⟩
            · exact ⟨h.ok.drew, h.drew⟩
          have hset : ∀ o' : Obj, Go.ChangeMaps.setBlock w0 b o' = w0.putObj b o' := fun _ => rfl
          have hzb : (Ent.entry one z).born = e.born := h1.2.1
          have hpush : q.2.2.toArray.push e.born = (q.2.2 ++ [e.born]).toArray := by simp
          have hrun : (execOp a.eval o).run P w = .ok (.value (.tuple #[.bool true, z.key, (z.entry one).val])) (w0.putObj b ((Kind.iter (some b')).obj (itVals q.1 p.1 (q.2.2 ++ [e.born])))) := by
            rw [itVals_obj, ← hpush, ← hzb, ← hset]
            simp only [execOp, ho, ex, Sem.run_bind, hr, Result.andThen_ok, Sem.run_pure]
            rfl
          unfold Oper.wp
          rw [hrun]
          obtain ⟨hR, hS⟩ := hwb.2.turnBox hb hkb hvi (it_sees q.1 p.1 (q.2.2 ++ [e.born])) (oneCell_itVals _ _ _) (itC_id _ _ _) rfl
          refine ⟨_, _, cls, hon e he (by rw [← h1.2.1]; exact hzn), hR.puts (fits_dst hf) ?_ (.none _ rfl) (fun _ => rfl)⟩
          exact .tup _ [_, _, _] rfl (SeesL.cons (.v _) (SeesL.cons (by rw [h1.1]; exact .v _) (SeesL.cons ((sees_elA one h1.2.2 (hone z hz)).ext hS.ext) SeesL.nil))).2
      · exact hx.elim
    · exact hx.elim
  · exact hx.elim
end
end Go.Proofs.YtofkddajlgebjaaGreat.Ax
/- Regions of operations over values without memory, in the order of the text and in whatever order. No program is named here. -/
namespace Go.Proofs.YtofkddajlgebjaaGreat.Ax
open Go.RowKit Go By

section
variable {P : Program} {C : Ctx} {N : Nat} {s : St} {Q : Exit → Act → World → Prop}
theorem xop_val {d : Option Nat} {x : XOp} (hv : x.isVal = true) (K : St → List Nat → Prop) : xop P d x s K = ((xval s x).ok ∧ K (s.puts d (xval s x).val (xval s x).own) (xval s x).ld) := by
  cases x <;> first | rfl | cases hv
theorem xop_sound (o : Oper) (x : XOp) (hc : cop P o.op = some x) (hf : fitsAll N o = true) (K : St → List Nat → Prop) (hx : xop P o.dst x s K) : ∃ s' l, K s' l ∧ OpS P C N s s' o Q := by
  by_cases hv : x.isVal = true
  · rw [xop_val hv] at hx
    exact ⟨_, _, hx.2, eff_val o x hc hv hf hx.1⟩
  · cases ho : o.op with
    | assign y =>
      rw [ho] at hc; injection hc with hc; subst hc
      unfold xop at hx
      dsimp only at hx
      cases hd : o.dst with
      | none => rw [hd] at hx; exact hx.elim
      | some d => rw [hd] at hx; exact ⟨_, _, hx, eff_assign o y ho d hd hf⟩
    | alloc t =>
      rw [ho] at hc
      replace hc : (zeroC P t).map (fun z => XOp.alloc (z.map ofC1)) = some x := hc
      cases hz : zeroC P t with
      | none => rw [hz] at hc; cases hc
      | some z => rw [hz] at hc; injection hc with hc; subst hc; exact ⟨_, _, hx, eff_alloc o t z ho hz hf⟩
    | box t y =>
      rw [ho] at hc; injection hc with hc; subst hc
      unfold xop at hx
      dsimp only at hx
      unfold onSome at hx
      split at hx
      · rename_i l hl
        exact ⟨_, _, hx, eff_box o t y l ho hl hf⟩
      · exact hx.elim
    | buildSlice t len parts =>
      rw [ho] at hc
      replace hc : copBuildSlice P t len parts = some x := hc
      unfold copBuildSlice at hc
      split at hc
      · rename_i e k he
        split at hc
        · rename_i z hz
          split at hc
          · rename_i hcond
            injection hc with hc
            subst hc
            unfold xop at hx
            dsimp only at hx
            unfold onSome at hx
            split at hx
            · rename_i cs hcs
              exact ⟨_, _, hx, eff_buildSlice o t e k len z parts ho he hz hcond.1 hcond.2.1 hcond.2.2 cs hcs hf⟩
            · exact hx.elim
          · split at hc
            · rename_i hcond
              injection hc with hc
              subst hc
              obtain ⟨rfl, hpe⟩ := hcond
              exact ⟨_, _, hx, eff_emptyS o t e k parts ho hpe he hf⟩
            · cases hc
        · cases hc
      · cases hc
    | store t p y =>
      rw [ho] at hc
      replace hc : (szOf P t).map (fun n => XOp.store n p y) = some x := hc
      cases hn : szOf P t with
      | none => rw [hn] at hc; cases hc
      | some n =>
        rw [hn] at hc; injection hc with hc; subst hc
        unfold xop at hx
        dsimp only at hx
        unfold onSome at hx
        split at hx
        · rename_i s' hs'
          exact ⟨_, _, hx, eff_store o t n p y s' ho hn hs' hf⟩
        · exact hx.elim
    | call c =>
      rw [ho] at hc
      have hc' : copCall P c = some x := hc
      unfold copCall at hc'
      split at hc'
      · rename_i f hcal
        injection hc' with hc'; subst hc'
        have e : o.op = .call { callee := .value (.func f), args := c.args, argTypes := c.argTypes } := by
          rw [ho]; obtain ⟨cal, args, ts⟩ := c; simp only at hcal; subst hcal; rfl
        exact eff_call o f c.args c.argTypes e K hx hf
      · rename_i y hny hcal
        injection hc' with hc'; subst hc'
        have e : o.op = .call { callee := .value y, args := c.args, argTypes := c.argTypes } := by
          rw [ho]; obtain ⟨cal, args, ts⟩ := c; simp only at hcal; subst hcal; rfl
        unfold xop xcallv at hx
        dsimp only at hx
        split at hx
        · rename_i f first cap hg
          exact eff_callv o y c.args c.argTypes (fun f hf => hny f hf) e f first cap hg K hx.2 hx.1 hf
        · exact hx.elim
      · exfalso
        split at hc'
        · unfold copLen at hc'
          split at hc'
          · injection hc' with hc'; subst hc'; exact hv rfl
          · injection hc' with hc'; subst hc'; exact hv rfl
          · split at hc'
            · injection hc' with hc'; subst hc'; exact hv rfl
            · cases hc'
          · cases hc'
        · cases hc'
      · rename_i hcal
        split at hc'
        · rename_i y z t ts hargs hts
          have e : o.op = .call { callee := .builtin .delete, args := #[y, z], argTypes := (t :: ts).toArray } := by
            rw [ho]
            obtain ⟨cal, args, ts'⟩ := c
            congr 1
            simp only at hcal hargs hts
            subst hcal
            rw [← Array.toArray_toList (xs := args), hargs, ← Array.toArray_toList (xs := ts'), hts]
          unfold copDel at hc'
          split at hc'
          · rename_i M hM
            injection hc' with hc'; subst hc'
            exact eff_mapDel o t y z ts e hM K hx hf
          · cases hc'
        · cases hc'
      · rename_i hcal
        split at hc'
        · rename_i y t hargs hts
          have e : o.op = .call { callee := .builtin .clear, args := #[y], argTypes := #[t] } := by
            rw [ho]
            obtain ⟨cal, args, ts'⟩ := c
            congr 1
            simp only at hcal hargs hts
            subst hcal
            rw [← Array.toArray_toList (xs := args), hargs, ← Array.toArray_toList (xs := ts'), hts]
          unfold copClear at hc'
          split at hc'
          · rename_i el k he
            split at hc'
            · rename_i z0 hz
              split at hc'
              · rename_i c0 hk1
                injection hc' with hc'; subst hc'
                exact eff_clear o t el k z0 c0 y e he hz hk1 hf hx
              · cases hc'
            · cases hc'
          · split at hc'
            · rename_i M hM
              injection hc' with hc'; subst hc'
              exact eff_clearM o t y e hM K hx hf
            · cases hc'
        · cases hc'
      · rename_i hcal
        split at hc'
        · rename_i y z t u hargs hts
          have e : o.op = .call { callee := .builtin .copy, args := #[y, z], argTypes := #[t, u] } := by
            rw [ho]
            obtain ⟨cal, args, ts⟩ := c
            congr 1
            simp only at hcal hargs hts
            subst hcal
            rw [← Array.toArray_toList (xs := args), hargs, ← Array.toArray_toList (xs := ts), hts]
          exact eff_copy o t u y z e hc' hf hx
        · cases hc'
      · exfalso; injection hc' with hc'; subst hc'; exact hv rfl
      · exfalso; injection hc' with hc'; subst hc'; exact hv rfl
      · rename_i hcal
        split at hc'
        · rename_i y z t u hargs hts
          have e : o.op = .call { callee := .builtin .append, args := #[y, z], argTypes := #[t, u] } := by
            rw [ho]
            obtain ⟨cal, args, ts⟩ := c
            congr 1
            simp only at hcal hargs hts
            subst hcal
            rw [← Array.toArray_toList (xs := args), hargs, ← Array.toArray_toList (xs := ts), hts]
          unfold copAppend at hc'
          split at hc'
          · rename_i el k he
            split at hc'
            · rename_i zz i hz hi
              split at hc'
              · rename_i hzk
                split at hc'
                · rename_i e' hu
                  injection hc' with hc'
                  have one : ∀ K, xappendA s k i.bytes o.dst (s.get y) (s.get z) K → ∃ s' l, K s' l ∧ OpS P C N s s' o Q := fun K hx => eff_appendA o t u el e' k i zz y z e he hz hzk hi hu hf hx
                  split at hc'
                  · rename_i hcn
                    have hny := isNilS_spec hcn.2
                    subst hny
                    subst hc'
                    rcases hx with hx | hx
                    · exact one _ hx
                    · unfold xappendBox at hx
                      split at hx
                      · rename_i k2 es2 nul2 room2 hz2
                        obtain ⟨h1, h2, h3, h4, h5, h6⟩ := hx
                        subst h1
                        exact ⟨_, _, h6, eff_appendBox o t u el e' k2 i zz z e he hz hzk hi hu es2 nul2 room2 hz2 h2 h3 h4 h5 hf⟩
                      · exact hx.elim
                  · subst hc'
                    exact one _ hx
                · rename_i hu
                  split at hc'
                  · rename_i hcond
                    obtain ⟨rfl, hb1⟩ := hcond
                    injection hc' with hc'; subst hc'
                    unfold xop xappendS at hx
                    dsimp only at hx
                    split at hx
                    · rename_i d k1 es nul room b hd hy hz2
                      obtain ⟨h1, h2, h3⟩ := hx
                      exact ⟨_, _, h3, eff_appendS o t u el d i zz y z e hd he hz hzk hi hb1 hu k1 es nul room b hy hz2 h1 h2 hf⟩
                    · exact hx.elim
                  · cases hc'
                · cases hc'
              · cases hc'
            · cases hc'
          · cases hc'
        · cases hc'
      · cases hc'
    | lookup t y k c =>
      exfalso
      rw [ho] at hc
      replace hc : copLookup P t y k c = some x := hc
      unfold copLookup at hc
      split at hc
      · injection hc with hc; subst hc; exact hv rfl
      · cases hc
    | entry y => rw [ho] at hc; injection hc with hc; subst hc; exact absurd rfl hv
    | makeMap t r =>
      rw [ho] at hc
      replace hc : copMake P t r = some x := hc
      unfold copMake at hc
      split at hc
      · injection hc with hc; subst hc
        exact ⟨_, _, hx, eff_makeMap o t ho _ _ hf⟩
      · cases hc
    | mapUpdate t m k y =>
      rw [ho] at hc
      replace hc : copUpd P t m k y = some x := hc
      unfold copUpd at hc
      split at hc
      · rename_i M hM
        injection hc with hc; subst hc
        exact eff_mapUpd o t m k y (.inl ho) hM K hx hf
      · cases hc
    | insert t m k y =>
      rw [ho] at hc
      replace hc : copUpd P t m k y = some x := hc
      unfold copUpd at hc
      split at hc
      · rename_i M hM
        injection hc with hc; subst hc
        exact eff_mapUpd o t m k y (.inr ho) hM K hx hf
      · cases hc
    | makeSlice t l y =>
      rw [ho] at hc
      replace hc : copMakeS P t l y = some x := hc
      unfold copMakeS at hc
      split at hc
      · rename_i e k he
        split at hc
        · rename_i z i hz hi
          split at hc
          · rename_i hik
            injection hc with hc; subst hc
            unfold xop xmakeS at hx
            dsimp only at hx
            split at hx
            · rename_i d n hd hn
              exact ⟨_, _, hx.2.2.2, eff_makeS o t e k d i z _ y n ho hd he hz hi hik rfl hn hx.1 hx.2.1 hx.2.2.1 hf⟩
            · exact hx.elim
          · cases hc
        · rename_i z i m _ hz hi
          split at hc
          · rename_i hik
            injection hc with hc; subst hc
            unfold xop xmakeB at hx
            dsimp only at hx
            split at hx
            · rename_i n hn
              exact ⟨_, _, hx.2.2.2, eff_makeB o t e k i z _ y n ho he hz hi hik.1.1 hik.1.2 (sameC_eq hik.2) hn hx.1 hx.2.1 hx.2.2.1 hf⟩
            · exact hx.elim
          · cases hc
        · rename_i z i u hz hi
          split at hc
          · rename_i hik
            injection hc with hc; subst hc
            unfold xop xmakeB at hx
            dsimp only at hx
            split at hx
            · rename_i n hn
              exact ⟨_, _, hx.2.2.2, eff_makeB o t e k i z _ y n ho he hz hi hik.1.1 hik.1.2 (slotOf_eq hik.2) hn hx.1 hx.2.1 hx.2.2.1 hf⟩
            · exact hx.elim
          · cases hc
        · cases hc
      · cases hc
    | range t y =>
      rw [ho] at hc
      replace hc : copRange P t y = some x := hc
      unfold copRange at hc
      split at hc
      · rename_i M hM
        injection hc with hc; subst hc
        exact eff_rangeM o t y ho hM K hx hf
      · cases hc
    | move y => rw [ho] at hc; injection hc with hc; subst hc; exact absurd rfl hv
    | pick c y z => rw [ho] at hc; injection hc with hc; subst hc; exact absurd rfl hv
    | nilCheck y => rw [ho] at hc; injection hc with hc; subst hc; exact absurd rfl hv
    | unOp op t y => rw [ho] at hc; injection hc with hc; subst hc; exact absurd rfl hv
    | makeFunc f y z => rw [ho] at hc; injection hc with hc; subst hc; exact absurd rfl hv
    | extract y i => rw [ho] at hc; injection hc with hc; subst hc; exact absurd rfl hv
    | build t parts =>
      exfalso
      rw [ho] at hc
      replace hc : copBuild P t parts = some x := hc
      revert hc
      unfold copBuild
      repeat' split
      all_goals first | (intro hc; cases hc; done) | (intro hc; injection hc with hc; subst hc; exact hv rfl)
    | load t y =>
      exfalso
      rw [ho] at hc
      replace hc : copLoad P t y = some x := hc
      revert hc
      unfold copLoad Option.map
      repeat' split
      all_goals first | (intro hc; cases hc; done) | (intro hc; injection hc with hc; subst hc; exact hv rfl)
    | binOp op t y z u =>
      exfalso
      rw [ho] at hc
      replace hc : copBin P op t y z = some x := hc
      revert hc
      unfold copBin copAeq
      repeat' split
      all_goals first | (intro hc; cases hc; done) | (intro hc; injection hc with hc; subst hc; exact hv rfl)
    | convert t u y =>
      rw [ho] at hc
      replace hc : copConv P t u y = some x := hc
      unfold copConv at hc
      split at hc
      · exfalso; injection hc with hc; subst hc; exact hv rfl
      · exfalso; injection hc with hc; subst hc; exact hv rfl
      · exfalso
        split at hc
        · injection hc with hc; subst hc; exact hv rfl
        · cases hc
      · rename_i e ht hu
        split at hc
        · rename_i he
          injection hc with hc; subst hc
          unfold xop xs2b at hx
          dsimp only at hx
          split at hx
          · rename_i b hb
            exact ⟨_, _, hx.2, eff_s2b o t u e y ho ht hu he b hb hx.1 hf⟩
          · exact hx.elim
        · cases hc
      · cases hc
    | slice t y lo hi mx =>
      exfalso
      rw [ho] at hc
      replace hc : copSlice P t y lo hi mx = some x := hc
      revert hc
      unfold copSlice
      repeat' split
      all_goals first | (intro hc; cases hc; done) | (intro hc; injection hc with hc; subst hc; exact hv rfl)
    | fieldAddr t y n =>
      exfalso
      rw [ho] at hc
      replace hc : copField P t y n = some x := hc
      revert hc
      unfold copField
      repeat' split
      all_goals first | (intro hc; cases hc; done) | (intro hc; injection hc with hc; subst hc; exact hv rfl)
    | makeInterface t y =>
      exfalso
      rw [ho] at hc
      replace hc : copI P t y = some x := hc
      revert hc
      unfold copI
      repeat' split
      all_goals first | (intro hc; cases hc; done) | (intro hc; injection hc with hc; subst hc; exact hv rfl)
    | field t y n =>
      exfalso
      rw [ho] at hc
      replace hc : copFld P t y n = some x := hc
      revert hc
      unfold copFld Option.map
      repeat' split
      all_goals first | (intro hc; cases hc; done) | (intro hc; injection hc with hc; subst hc; exact hv rfl)
    | index t y i =>
      exfalso
      rw [ho] at hc
      replace hc : (match P.underlying t with
      | some .string => some (XOp.idxS y i)
      | _ => none) = some x := hc
      revert hc
      skip
      repeat' split
      all_goals first | (intro hc; cases hc; done) | (intro hc; injection hc with hc; subst hc; exact hv rfl)
    | indexAddr t y i =>
      exfalso
      rw [ho] at hc
      replace hc : copIaddr P t y i = some x := hc
      revert hc
      unfold copIaddr
      repeat' split
      all_goals first | (intro hc; cases hc; done) | (intro hc; injection hc with hc; subst hc; exact hv rfl)
    | _ => rw [ho] at hc; cases hc

/-! ### Operations in a list, which may call what a loop over a function hands over -/
theorem cop_callv {op : Op} {y : Operand} {args : List Operand} (h : cop P op = some (.callv y args)) : ∃ (zs : Array Operand) (ts : Array TypeId), op = .call { callee := .value y, args := zs, argTypes := ts } ∧ args = zs.toList := by
  cases op with
  | call c =>
    replace h : copCall P c = some (.callv y args) := h
    obtain ⟨callee, zs, ts⟩ := c
    unfold copCall at h
    dsimp only at h
    split at h
    · cases h
    · injection h with h; injection h with h1 h2; subst h1 h2; exact ⟨zs, ts, rfl, rfl⟩
    · split at h
      · unfold copLen at h; repeat' split at h
        all_goals cases h
      · cases h
    · split at h
      · unfold copDel at h; repeat' split at h
        all_goals cases h
      · cases h
    · split at h
      · unfold copClear at h; repeat' split at h
        all_goals cases h
      · cases h
    · split at h
      · have := copCopy_is h; cases this
      · cases h
    · cases h
    · cases h
    · split at h
      · unfold copAppend at h; repeat' split at h
        all_goals cases h
      · cases h
    · cases h
  | lookup t x k c =>
    exfalso
    replace h : copLookup P t x k c = some (XOp.callv y args) := h
    revert h
    unfold copLookup
    repeat' split
    all_goals first | (intro h; cases h; done) | (intro h; injection h with h; cases h)
  | makeMap t r =>
    exfalso
    replace h : copMake P t r = some (XOp.callv y args) := h
    revert h
    unfold copMake
    repeat' split
    all_goals first | (intro h; cases h; done) | (intro h; injection h with h; cases h)
  | makeSlice t l c =>
    exfalso
    replace h : copMakeS P t l c = some (XOp.callv y args) := h
    revert h
    unfold copMakeS
    repeat' split
    all_goals first | (intro h; cases h; done) | (intro h; injection h with h; cases h)
  | mapUpdate t m k x =>
    exfalso
    replace h : copUpd P t m k x = some (XOp.callv y args) := h
    revert h
    unfold copUpd
    repeat' split
    all_goals first | (intro h; cases h; done) | (intro h; injection h with h; cases h)
  | insert t m k x =>
    exfalso
    replace h : copUpd P t m k x = some (XOp.callv y args) := h
    revert h
    unfold copUpd
    repeat' split
    all_goals first | (intro h; cases h; done) | (intro h; injection h with h; cases h)
  | range t x =>
    exfalso
    replace h : copRange P t x = some (XOp.callv y args) := h
    revert h
    unfold copRange
    repeat' split
    all_goals first | (intro h; cases h; done) | (intro h; injection h with h; cases h)
  | alloc t =>
    exfalso
    replace h : (zeroC P t).map (fun z => XOp.alloc (z.map ofC1)) = some (XOp.callv y args) := h
    revert h
    unfold Option.map
    repeat' split
    all_goals first | (intro h; cases h; done) | (intro h; injection h with h; cases h)
  | build t parts =>
    exfalso
    replace h : copBuild P t parts = some (XOp.callv y args) := h
    revert h
    unfold copBuild
    repeat' split
    all_goals first | (intro h; cases h; done) | (intro h; injection h with h; cases h)
  | buildSlice t len parts =>
    exfalso
    replace h : copBuildSlice P t len parts = some (XOp.callv y args) := h
    revert h
    unfold copBuildSlice
    repeat' split
    all_goals first | (intro h; cases h; done) | (intro h; injection h with h; cases h)
  | load t x =>
    exfalso
    replace h : copLoad P t x = some (XOp.callv y args) := h
    revert h
    unfold copLoad Option.map
    repeat' split
    all_goals first | (intro h; cases h; done) | (intro h; injection h with h; cases h)
  | store t p x =>
    exfalso
    replace h : (szOf P t).map (fun n => XOp.store n p x) = some (XOp.callv y args) := h
    revert h
    unfold Option.map
    repeat' split
    all_goals first | (intro h; cases h; done) | (intro h; injection h with h; cases h)
  | binOp op t x z u =>
    exfalso
    replace h : copBin P op t x z = some (XOp.callv y args) := h
    revert h
    unfold copBin copAeq
    repeat' split
    all_goals first | (intro h; cases h; done) | (intro h; injection h with h; cases h)
  | convert t u x =>
    exfalso
    replace h : copConv P t u x = some (XOp.callv y args) := h
    revert h
    unfold copConv
    repeat' split
    all_goals first | (intro h; cases h; done) | (intro h; injection h with h; cases h)
  | slice t x lo hi mx =>
    exfalso
    replace h : copSlice P t x lo hi mx = some (XOp.callv y args) := h
    revert h
    unfold copSlice
    repeat' split
    all_goals first | (intro h; cases h; done) | (intro h; injection h with h; cases h)
  | makeInterface t x =>
    exfalso
    replace h : copI P t x = some (XOp.callv y args) := h
    revert h
    unfold copI
    repeat' split
    all_goals first | (intro h; cases h; done) | (intro h; injection h with h; cases h)
  | field t x n =>
    exfalso
    replace h : copFld P t x n = some (XOp.callv y args) := h
    revert h
    unfold copFld Option.map
    repeat' split
    all_goals first | (intro h; cases h; done) | (intro h; injection h with h; cases h)
  | fieldAddr t x n =>
    exfalso
    replace h : copField P t x n = some (XOp.callv y args) := h
    revert h
    unfold copField
    repeat' split
    all_goals first | (intro h; cases h; done) | (intro h; injection h with h; cases h)
  | indexAddr t x i =>
    exfalso
    replace h : copIaddr P t x i = some (XOp.callv y args) := h
    revert h
    unfold copIaddr
    repeat' split
    all_goals first | (intro h; cases h; done) | (intro h; injection h with h; cases h)
  | index t x i =>
    exfalso
    replace h : (match P.underlying t with | some .string => some (XOp.idxS x i) | _ => none) = some (XOp.callv y args) := h
    revert h
    skip
    repeat' split
    all_goals first | (intro h; cases h; done) | (intro h; injection h with h; cases h)
  | _ => first | (cases h; done) | (injection h with h; cases h)
theorem cop_defer {op : Op} {x : XOp} (h : cop P op = some x) : ∀ c, op ≠ .defer c := fun c e => by rw [e] at h; cases h
def xcallvL (P : Program) (v : AV) (args : List AV) (s : St) (d : Option Nat) (K : St → List Nat → Prop) : Prop :=
  match v with
  | .yld i r c slots => xyield P i r c slots args s d K
  | v => xcallv P v args s d K
def xopL (P : Program) (d : Option Nat) (op : XOp) (s : St) (K : St → List Nat → Prop) : Prop :=
  match op with
  | .callv x args => xcallvL P (s.get x) (args.map s.get) s d K
  | op => xop P d op s K
theorem xopL_plain {d : Option Nat} {x : XOp} {K : St → List Nat → Prop} (h : ∀ y args, x ≠ .callv y args) : xopL P d x s K = xop P d x s K := by
  cases x <;> first | rfl | exact absurd rfl (h _ _)
theorem xopL_sound {rr : Option Nat} (o : Oper) (x : XOp) (hc : cop P o.op = some x) (hf : fitsAll N o = true) (K : St → List Nat → Prop) (hx : xopL P o.dst x s K) : ∃ s' l, K s' l ∧ OpSIn P C N rr s s' o Q := by
  have plain : xop P o.dst x s K → ∃ s' l, K s' l ∧ OpSIn P C N rr s s' o Q := fun hx => by
    obtain ⟨s', l, h1, h2⟩ := xop_sound (C := C) (N := N) (Q := Q) o x hc hf K hx
    exact ⟨s', l, h1, h2.inside (cop_defer hc)⟩
  cases x with
  | callv y args =>
    obtain ⟨zs, ts, ho, rfl⟩ := cop_callv hc
    unfold xopL xcallvL at hx
    dsimp only at hx
    split at hx
    · rename_i i r c slots hg
      exact eff_yield o y zs ts ho i r c slots hg K hx hf
    · exact plain hx
  | _ => exact plain hx

/-- An operation, its guard a slot. -/
structure XOper where
  dst : Option Nat
  op : XOp
  guard : Option (Nat × Bool)
def cooper (P : Program) (N : Nat) (ops : Array Oper) (o : Oper) : Option XOper :=
  match cop P o.op with
  | some x =>
    if fitsAll N o = true then
      match o.guard with
      | none => some ⟨o.dst, x, none⟩
      | some (j, want) => match (ops[j]?).bind (·.dst) with
        | some t => if t < N then some ⟨o.dst, x, some (t, want)⟩ else none
        | none => none
    else none
  | none => some ⟨o.dst, .bad, none⟩
/-- Is it carried out? -/
def xwant (s : St) (o : XOper) : Option Bool :=
  match o.guard with
  | none => some true
  | some (g, want) => match s.look g with
    | .v (.bool b) => some (b == want)
    | .v (.tuple _) => some false
    | _ => none
def xguard (w : Option Bool) (A B : Prop) : Prop :=
  match w with
  | some true => A
  | some false => B
  | none => False
/-- Operations, one behind the other. -/
def xops (P : Program) : List XOper → St → List Nat → (St → List Nat → Prop) → Prop
  | [], s, ld, K => K s ld
  | o :: r, s, ld, K =>
    xguard (xwant s o) (xopL P o.dst o.op s fun s' l => hold s' fun s' => xops P r s' (l ++ ld) K) (hold (s.puts o.dst (.v undef) false) fun s' => xops P r s' ld K)
/-- Which way they go. -/
inductive XRun (P : Program) : List XOper → St → List Nat → St → List Nat → Prop
  | nil (s : St) (ld : List Nat) : XRun P [] s ld s ld
  | step (o : XOper) (r : List XOper) (s s1 s' : St) (ld l ld' : List Nat) (hw : xwant s o = some true) (hx : xopL P o.dst o.op s fun s2 l2 => s2 = s1 ∧ l2 = l) (hr : XRun P r s1 (l ++ ld) s' ld') : XRun P (o :: r) s ld s' ld'
  | skip (o : XOper) (r : List XOper) (s s' : St) (ld ld' : List Nat) (hw : xwant s o = some false) (hr : XRun P r (s.puts o.dst (.v undef) false) ld s' ld') : XRun P (o :: r) s ld s' ld'
theorem xop_split {d : Option Nat} {x : XOp} {K : St → List Nat → Prop} (h : xop P d x s K) : ∃ s1 l, K s1 l ∧ xop P d x s fun s2 l2 => s2 = s1 ∧ l2 = l := by
  cases x with
  | assign y =>
    unfold xop at h ⊢
    dsimp only at h ⊢
    cases d with
    | none => exact h.elim
    | some d => exact ⟨_, _, h, rfl, rfl⟩
  | alloc z => exact ⟨_, _, h, rfl, rfl⟩
  | box y =>
    unfold xop at h ⊢
    dsimp only at h ⊢
    unfold onSome at h ⊢
    split at h
    · exact ⟨_, _, h, rfl, rfl⟩
    · exact h.elim
  | buildSlice k len z parts =>
    unfold xop at h ⊢
    dsimp only at h ⊢
    unfold onSome at h ⊢
    split at h
    · exact ⟨_, _, h, rfl, rfl⟩
    · exact h.elim
  | store n p y =>
    unfold xop at h ⊢
    dsimp only at h ⊢
    unfold onSome at h ⊢
    split at h
    · exact ⟨_, _, h, rfl, rfl⟩
    · exact h.elim
  | append k bytes y z => exact xappendA_pick h
  | appendN k bytes z =>
    rcases h with h | h
    · obtain ⟨s', l, h1, h2⟩ := xappendA_pick h
      exact ⟨s', l, h1, .inl h2⟩
    · unfold xappendBox at h
      split at h
      · rename_i k2 es2 nul2 room2 hz2
        obtain ⟨h1, h2, h3, h4, h5, h6⟩ := h
        refine ⟨_, _, h6, .inr ?_⟩
        rw [hz2]
        exact ⟨h1, h2, h3, h4, h5, rfl, rfl⟩
      · exact h.elim
  | s2b z =>
    unfold xop xs2b at h ⊢
    dsimp only at h ⊢
    split at h
    · exact ⟨_, _, h.2, h.1, rfl, rfl⟩
    · exact h.elim
  | appendS y z =>
    unfold xop xappendS at h ⊢
    dsimp only at h ⊢
    split at h
    · obtain ⟨h1, h2, h3⟩ := h; exact ⟨_, _, h3, h1, h2, rfl, rfl⟩
    · exact h.elim
  | call f args =>
    rcases h with h | h
    · obtain ⟨bs, r, h', wr, h0, h1, h2, h3⟩ := h; exact ⟨_, _, h3, .inl ⟨bs, r, h', wr, h0, h1, h2, rfl, rfl⟩⟩
    · obtain ⟨bs, r, h', wr, hh, h0, h4, h1, h2, h3⟩ := h; exact ⟨_, _, h3, .inr ⟨bs, r, h', wr, hh, h0, h4, h1, h2, rfl, rfl⟩⟩
  | makeMap n one => exact ⟨_, _, h, rfl, rfl⟩
  | emptyS k => exact ⟨_, _, h, rfl, rfl⟩
  | clearM n one x =>
    unfold xop xclearM at h ⊢
    dsimp only at h ⊢
    split at h
    · exact ⟨_, _, h, rfl, rfl⟩
    · unfold onSome at h ⊢
      obtain ⟨h1, h2⟩ := h
      split at h2
      · exact ⟨_, _, h2, h1, rfl, rfl⟩
      · exact h2.elim
    · exact h.elim
  | copyB x y =>
    unfold xop xcopy at h ⊢
    dsimp only at h ⊢
    split at h
    · unfold onSome at h ⊢
      obtain ⟨h1, h2⟩ := h
      split at h2
      · obtain ⟨h3, h4⟩ := h2
        split at h4
        · exact ⟨_, _, h4.2, h1, h3, h4.1, rfl, rfl⟩
        · exact h4.elim
      · exact h2.elim
    · exact h.elim
  | clearS k z x =>
    unfold xop xclear at h ⊢
    dsimp only at h ⊢
    split at h
    · exact ⟨_, _, h.2, h.1, rfl, rfl⟩
    · unfold onSome at h ⊢
      obtain ⟨h1, h2⟩ := h
      split at h2
      · exact ⟨_, _, h2.2, h1, h2.1, rfl, rfl⟩
      · exact h2.elim
    · exact h.elim
  | makeS k bytes c =>
    unfold xop xmakeS at h ⊢
    dsimp only at h ⊢
    split at h
    · exact ⟨_, _, h.2.2.2, h.1, h.2.1, h.2.2.1, rfl, rfl⟩
    · exact h.elim
  | makeB k bytes z c =>
    unfold xop xmakeB at h ⊢
    dsimp only at h ⊢
    split at h
    · exact ⟨_, _, h.2.2.2, h.1, h.2.1, h.2.2.1, rfl, rfl⟩
    · exact h.elim
  | mapUpd ks n one m k x =>
    unfold xop xmapUpd at h ⊢
    dsimp only at h ⊢
    split at h
    · unfold onSome at h ⊢
      obtain ⟨h1, h2, h3⟩ := h
      split at h3
      · obtain ⟨h4, h5⟩ := h3
        split at h5
        · exact ⟨_, _, h5, h1, h2, h4, rfl, rfl⟩
        · exact h5.elim
      · exact h3.elim
    · exact h.elim
  | mapDel ks n one m k =>
    unfold xop xmapDel at h ⊢
    dsimp only at h ⊢
    split at h
    · exact ⟨_, _, h.2, h.1, rfl, rfl⟩
    · unfold onSome at h ⊢
      obtain ⟨h1, h2, h3⟩ := h
      split at h3
      · obtain ⟨h4, h5⟩ := h3
        exact ⟨_, _, h5, h1, h2, h4, rfl, rfl⟩
      · exact h3.elim
    · exact h.elim
  | rangeM n one x =>
    unfold xop xrangeM at h ⊢
    dsimp only at h ⊢
    split at h
    · exact ⟨_, _, h, rfl, rfl⟩
    · unfold onSome at h ⊢
      obtain ⟨h1, h2⟩ := h
      split at h2
      · exact ⟨_, _, h2, h1, rfl, rfl⟩
      · exact h2.elim
    · exact h.elim
  | callv y args =>
    unfold xop xcallv at h ⊢
    dsimp only at h ⊢
    split at h
    · obtain ⟨hc, h⟩ := h
      rcases h with h | h
      · obtain ⟨bs, r, h', wr, h0, h1, h2, h3⟩ := h; exact ⟨_, _, h3, hc, .inl ⟨bs, r, h', wr, h0, h1, h2, rfl, rfl⟩⟩
      · obtain ⟨bs, r, h', wr, hh, h0, h4, h1, h2, h3⟩ := h; exact ⟨_, _, h3, hc, .inr ⟨bs, r, h', wr, hh, h0, h4, h1, h2, rfl, rfl⟩⟩
    · exact h.elim
  | _ => exact ⟨_, _, h.2, h.1, rfl, rfl⟩
theorem xopL_split {d : Option Nat} {x : XOp} {K : St → List Nat → Prop} (h : xopL P d x s K) : ∃ s1 l, K s1 l ∧ xopL P d x s fun s2 l2 => s2 = s1 ∧ l2 = l := by
  cases x with
  | callv y args =>
    have h0 := h
    unfold xopL xcallvL at h
    dsimp only at h
    split at h
    · rename_i i r c slots hg
      obtain ⟨bs, res, h', wr, h1, h2, h3, h4⟩ := h
      refine ⟨_, _, h4, ?_⟩
      unfold xopL xcallvL
      dsimp only
      rw [hg]
      exact ⟨bs, res, h', wr, h1, h2, h3, rfl, rfl⟩
    · rename_i hg
      obtain ⟨s1, l, h1, h2⟩ := xop_split (x := .callv y args) (show xop P d (.callv y args) s K from h)
      refine ⟨s1, l, h1, ?_⟩
      unfold xopL xcallvL
      dsimp only
      split
      · rename_i i r c slots hg2; exact absurd hg2 (hg i r c slots)
      · exact h2
  | _ =>
    rw [xopL_plain (fun y args e => by cases e)] at h
    obtain ⟨s1, l, h1, h2⟩ := xop_split h
    exact ⟨s1, l, h1, by rw [xopL_plain (fun y args e => by cases e)]; exact h2⟩
theorem xops_run : ∀ (xs : List XOper) (s : St) (ld : List Nat) (K : St → List Nat → Prop), xops P xs s ld K → ∃ s' ld', K s' ld' ∧ XRun P xs s ld s' ld'
  | [], s, ld, K, h => ⟨s, ld, h, .nil s ld⟩
  | o :: r, s, ld, K, h => by
    unfold xops xguard at h
    split at h
    · rename_i hw
      obtain ⟨s1, l, h1, h2⟩ := xopL_split h
      obtain ⟨s', ld', h3, h4⟩ := xops_run r s1 (l ++ ld) K h1
      exact ⟨s', ld', h3, .step o r s s1 s' ld l ld' hw h2 h4⟩
    · rename_i hw
      obtain ⟨s', ld', h3, h4⟩ := xops_run r _ ld K h
      exact ⟨s', ld', h3, .skip o r s s' ld ld' hw h4⟩
    · exact h.elim
theorem cooper_spec {ops : Array Oper} {o : Oper} {x : XOper} (h : cooper P N ops o = some x) : (x.op = .bad ∧ x.guard = none) ∨ cop P o.op = some x.op ∧ fitsAll N o = true ∧ x.dst = o.dst ∧
    ∀ (G : Ghost) (cls : Nat → Id) (s : St) (a : Act) (w : World), Rel C N G cls s a w → ∀ b, xwant s x = some b → Region.wanted o (yielded ops a.tmps) = b := by
  unfold cooper at h
  split at h
  · rename_i y hy
    split at h
    · rename_i hf
      split at h
      · rename_i hg
        injection h with h; subst h
        refine .inr ⟨hy, hf, rfl, fun G cls s a w hR b hb => ?_⟩
        have : some true = some b := hb
        injection this with this
        rw [← this]
        simp [Region.wanted, hg]
      · rename_i j want hg
        split at h
        · rename_i t ht
          split at h
          · rename_i htN
            injection h with h; subst h
            refine .inr ⟨hy, hf, rfl, fun G cls s a w hR b hb => ?_⟩
            unfold xwant at hb
            dsimp only at hb
            split at hb
            · rename_i v hv
              injection hb with hb
              have h1 := (hR.env t htN).1
              rw [hv] at h1
              have h2 := h1.inv_v
              have h3 : yielded ops a.tmps j = some v := by
                unfold yielded
                rw [ht]
                have : a.tmps[t]? = some (.bool v) := by
                  rw [Array.getElem?_eq_getElem (by rw [hR.size]; exact htN)]
                  rw [Array.getD_eq_getD_getElem?, Array.getElem?_eq_getElem (by rw [hR.size]; exact htN)] at h2
                  simpa using h2
                simp [this]
              rw [← hb]
              simp [Region.wanted, hg, h3]
            · rename_i vs hv
              injection hb with hb
              have h1 := (hR.env t htN).1
              rw [hv] at h1
              have h2 := h1.inv_v
              have h3 : yielded ops a.tmps j = none := by
                unfold yielded
                rw [ht]
                have : a.tmps[t]? = some (.tuple vs) := by
                  rw [Array.getElem?_eq_getElem (by rw [hR.size]; exact htN)]
                  rw [Array.getD_eq_getD_getElem?, Array.getElem?_eq_getElem (by rw [hR.size]; exact htN)] at h2
                  simpa using h2
                simp [this]
              rw [← hb]
              simp [Region.wanted, hg, h3]
            · cases hb
          · cases h
        · cases h
    · cases h
  · injection h with h; subst h; exact .inl ⟨rfl, rfl⟩
/-- In the order of the text. -/
theorem plain_list {rr : Option Nat} (ops : Array Oper) {xs : List XOper} {s s' : St} {ld ld' : List Nat} (hr : XRun P xs s ld s' ld') : ∀ (l : List Oper), l.mapM (cooper P N ops) = some xs → ∀ (G : Ghost) (cls : Nat → Id) (a : Act) (w : World), Rel C N G cls s a w →
    (∀ a' w' G' cls', Rel C N G' cls' s' a' w' → Stays G G' s s' → Q .normal a' w') → wpListIn (Fr rr) 0 P ops Q l a w := by
  induction hr with
  | nil s ld =>
    intro l hl G cls a w hR hQ
    have : l = [] := by
      cases l with
      | nil => rfl
      | cons o r => have := (mapM_some _ _ _ hl).1; simp at this
    subst this
    exact hQ a w G cls hR (Stays.same rfl)
  | step o r s s1 s' ld l1 ld' hw hx hr ih =>
    intro l hl G cls a w hR hQ
    cases l with
    | nil => simp at hl
    | cons y l =>
      simp only [List.mapM_cons, Option.bind_eq_bind, Option.pure_def] at hl
      cases hy : cooper P N ops y with
      | none => rw [hy] at hl; cases hl
      | some x =>
        cases hrr : l.mapM (cooper P N ops) with
        | none => rw [hy, hrr] at hl; cases hl
        | some r' =>
          rw [hy, hrr] at hl
          simp at hl
          obtain ⟨rfl, rfl⟩ := hl
          rcases cooper_spec (C := C) hy with ⟨hb, _⟩ | ⟨h1, h2, h3, h4⟩
          · rw [hb] at hx; exact hx.1.elim
          have hwant := h4 G cls s a w hR true hw
          rw [h3] at hx
          obtain ⟨s2, l2, ⟨rfl, rfl⟩, hS⟩ := xopL_sound (C := C) (N := N) (rr := rr) (Q := Q) y x.op h1 h2 _ hx
          unfold wpListIn
          rw [if_pos hwant]
          refine Oper.wpIn_mono (fun a' w' hh => ?_) (hS G cls a w hR)
          obtain ⟨G', cls', hR', hS'⟩ := hh
          exact ih l hrr G' cls' a' w' hR' fun a2 w2 G2 cls2 hR2 hS2 => hQ a2 w2 G2 cls2 hR2 (hS'.trans hS2 (hR.boxLen hR' hS'.ext))
  | skip o r s s' ld ld' hw hr ih =>
    intro l hl G cls a w hR hQ
    cases l with
    | nil => simp at hl
    | cons y l =>
      simp only [List.mapM_cons, Option.bind_eq_bind, Option.pure_def] at hl
      cases hy : cooper P N ops y with
      | none => rw [hy] at hl; cases hl
      | some x =>
        cases hrr : l.mapM (cooper P N ops) with
        | none => rw [hy, hrr] at hl; cases hl
        | some r' =>
          rw [hy, hrr] at hl
          simp at hl
          obtain ⟨rfl, rfl⟩ := hl
          rcases cooper_spec (C := C) hy with ⟨_, hg⟩ | ⟨h1, h2, h3, h4⟩
          · unfold xwant at hw; rw [hg] at hw; cases hw
          have hwant := h4 G cls s a w hR false hw
          unfold wpListIn
          rw [hwant, if_neg (by simp)]
          refine ⟨fun _ _ => trivial, ?_⟩
          have hR' := hR.puts (d := x.dst) (v := undef) (o := false) (fun d hd => fits_dst h2 d (by rw [← h3]; exact hd)) (.v undef) trivial (fun _ => rfl)
          rw [h3] at hR'
          rw [h3] at ih
          exact ih l hrr G cls _ w hR' fun a2 w2 G2 cls2 hR2 hS2 => hQ a2 w2 G2 cls2 hR2 (hS2.wr_eq' (puts_wr _ _ _ _).symm)
end
end Go.Proofs.YtofkddajlgebjaaGreat.Ax
/- The operations of a region in the order of the text. No program is named here. -/
namespace Go.Proofs.YtofkddajlgebjaaGreat.Ax
open Go.RowKit Go By

def cops (P : Program) (N : Nat) (ops : Array Oper) (l : List Oper) : Option (List XOper) := l.mapM (cooper P N ops)
section
variable {P : Program} {C : Ctx} {N : Nat} {s s' : St} {Q : Exit → Act → World → Prop}
theorem plain_ops {rr : Option Nat} (ops : Array Oper) {xs : List XOper} {ld ld' : List Nat} (hr : XRun P xs s ld s' ld') (l : List Oper) (hl : cops P N ops l = some xs) (G : Ghost) (cls : Nat → Id) (a : Act) (w : World) (hR : Rel C N G cls s a w)
    (hQ : ∀ a' w' G' cls', Rel C N G' cls' s' a' w' → Stays G G' s s' → Q .normal a' w') : wpListIn (Fr rr) 0 P ops Q l a w := plain_list ops hr l hl G cls a w hR hQ
end
end Go.Proofs.YtofkddajlgebjaaGreat.Ax
/- Regions that draw the order of their operations, over values without memory. No program is named here. -/
namespace Go.Proofs.YtofkddajlgebjaaGreat.Ax
open Go.RowKit Go By

/-- The ways through a region that draws: what is taken first; what comes up alone; two that may come up. -/
inductive XTree where
  | done
  | take (o : XOper) (t : XTree)
  | only (o : XOper) (t : XTree)
  | two (o p : XOper) (t u : XTree)
  | last (o : XOper)
  | alt (o : XOper) (t u : XTree)

/-- One that writes a variable. -/
def XOp.writes : XOp → Bool
  | .store .. => true
  | .mapUpd .. => true
  | .mapDel .. => true
  | .clearM .. => true
  | .copyB .. => true
  | _ => false
/-- One that calls. -/
def XOp.calls : XOp → Bool
  | .call .. => true
  | _ => false
/-- One that yields its value whatever comes between. -/
def XOp.quiet : XOp → Bool
  | .assign _ => true
  | x => x.isVal
/-- What was read is not written. -/
def fresh (ld : List Nat) (s s' : St) : Prop := ∀ i ∈ ld, i ∉ s'.wr.take (s'.wr.length - s.wr.length)
def xstepQ (P : Program) (o : XOper) (s : St) (ld : List Nat) (K : St → List Nat → Prop) : Prop :=
  xguard (xwant s o) (xop P o.dst o.op s fun s' l => hold s' fun s' => K s' (l ++ ld)) (hold (s.puts o.dst (.v undef) false) fun s' => K s' ld)
def xstep (P : Program) (o : XOper) (s : St) (ld : List Nat) (K : St → List Nat → Prop) : Prop :=
  xguard (xwant s o) (xop P o.dst o.op s fun s' l => fresh ld s s' ∧ hold s' fun s' => K s' (l ++ ld)) (hold (s.puts o.dst (.v undef) false) fun s' => K s' ld)
def xtree (P : Program) : XTree → St → List Nat → (St → Prop) → Prop
  | .done, s, _, K => K s
  | .take o t, s, ld, K => xstepQ P o s ld fun s' ld' => xtree P t s' ld' K
  | .only o t, s, ld, K => xstep P o s ld fun s' ld' => xtree P t s' ld' K
  | .last o, s, _, K => xguard (xwant s o) (xop P o.dst o.op s fun s' _ => hold s' K) (hold (s.puts o.dst (.v undef) false) K)
  | .two o p t u, s, ld, K => (xstep P o s ld fun s' ld' => xtree P t s' ld' K) ∧ xstep P p s ld fun s' ld' => xtree P u s' ld' K
  | .alt o t u, s, ld, K => (xstep P o s ld fun s' ld' => xtree P t s' ld' K) ∧ xtree P u s ld K
/-- Three or more that may come up. -/
def calts (f : Nat → Option (XOper × XTree)) : List Nat → Option XTree
  | [] => none
  | [i] => (f i).map fun p => .only p.1 p.2
  | i :: j :: r => match f i, calts f (j :: r) with
    | some p, some u => some (.alt p.1 p.2 u)
    | _, _ => none
theorem calts_spec {P : Program} {f : Nat → Option (XOper × XTree)} {s : St} {ld : List Nat} {K : St → Prop} : ∀ {l : List Nat} {t : XTree}, calts f l = some t → xtree P t s ld K → ∀ i ∈ l, ∃ x t', f i = some (x, t') ∧ xstep P x s ld fun s' ld' => xtree P t' s' ld' K
  | [], t, h, hx, i, hi => by cases hi
  | [j], t, h, hx, i, hi => by
    have : i = j := by simpa using hi
    subst this
    unfold calts at h
    cases hf : f i with
    | none => rw [hf] at h; cases h
    | some p => rw [hf] at h; injection h with h; subst h; exact ⟨p.1, p.2, rfl, hx⟩
  | j :: k :: r, t, h, hx, i, hi => by
    unfold calts at h
    split at h
    · rename_i p u hp hu
      injection h with h; subst h
      rcases List.mem_cons.1 hi with rfl | hi
      · exact ⟨p.1, p.2, hp, hx.1⟩
      · exact calts_spec hu hx.2 i hi
    · cases h

/-- Number j waits for number i. -/
def waits (ops : Array Oper) (j i : Nat) : Bool :=
  match ops[j]? with
  | some o => o.after.any fun e => Region.binds .any e && e.on == i
  | none => false
/-- The last one: every other has one behind it that waits for it. -/
def lastB (ops : Array Oper) (n : Nat) : Bool :=
  decide (n + 1 = ops.size) && (List.range n).all fun i => (List.range ops.size).any fun j => decide (i < j) && waits ops j i
/-- The ways, as the region's edges have them. -/
def ctree (P : Program) (N : Nat) (ops : Array Oper) : Nat → Array Bool → Option XTree
  | 0, listed => if Region.ready .any ops listed = [] then some .done else none
  | n + 1, listed =>
    match Region.ready .any ops listed with
    | [] => some .done
    | i0 :: r =>
      match (i0 :: r).find? fun i => (match ops[i]? with
          | some o => (match cooper P N ops o with | some x => x.op.quiet | none => false)
          | none => false) && Region.free .any ops listed i with
      | some i => match ops[i]? with
        | some o => match cooper P N ops o, ctree P N ops n (listed.setIfInBounds i true) with
          | some x, some t => some (.take x t)
          | _, _ => none
        | none => none
      | none => match r with
        | [] => match ops[i0]? with
          | some o => match cooper P N ops o, ctree P N ops n (listed.setIfInBounds i0 true) with
            | some x, some t => some (if x.guard.isNone && (x.op.writes || x.op.calls) && lastB ops i0 && (Region.ready .any ops (listed.setIfInBounds i0 true)).isEmpty then .last x else .only x t)
            | _, _ => none
          | none => none
        | [j] => match ops[i0]?, ops[j]? with
          | some o, some p => match cooper P N ops o, ctree P N ops n (listed.setIfInBounds i0 true), cooper P N ops p, ctree P N ops n (listed.setIfInBounds j true) with
            | some x, some t, some y, some u => some (.two x y t u)
            | _, _, _, _ => none
          | _, _ => none
        | _ => if (i0 :: r).length ≤ 4 ∧ ops.size ≤ 10 then calts (fun i => match ops[i]? with
          | some o => match cooper P N ops o, ctree P N ops n (listed.setIfInBounds i true) with
            | some x, some t => some (x, t)
            | _, _ => none
          | none => none) (i0 :: r) else none

/-- Memory that goes on from what is known, where what was read is as it was. -/
def SS (G : Ghost) (ld : List Nat) (w : World) : Prop :=
  ∃ G', Ext G G' ∧ WorldOk G' w ∧ ∀ i ∈ ld, i < G.boxv.length → G'.boxv[i]? = G.boxv[i]?
/-- What is listed is listed with all that it waits for. -/
structure Shut2 (ops : Array Oper) (listed : Array Bool) : Prop where
  size : listed.size = ops.size
  closed : ∀ j oj, ops[j]? = some oj → listed.getD j false = true → ∀ e ∈ oj.after, Region.binds .any e = true → listed.getD e.on false = true
theorem un_both {listed : Array Bool} {i : Nat} (h : listed.getD i true = false) : listed.getD i false = false := by
  rcases Nat.lt_or_ge i listed.size with h' | h'
  · simp [h'] at h ⊢; exact h
  · simp [Array.getElem?_eq_none h'] at h
theorem un_in {listed : Array Bool} {i : Nat} (hi : i < listed.size) (h : listed.getD i false = false) : listed.getD i true = false := by
  simp [hi] at h ⊢; exact h
theorem set_still {listed : Array Bool} {i j : Nat} (h : listed.getD j false = true) : (listed.setIfInBounds i true).getD j false = true := by
  by_cases hij : i = j
  · subst hij
    rcases Nat.lt_or_ge i listed.size with h' | h'
    · simp [h']
    · simp [Array.getElem?_eq_none h'] at h
  · rw [getD_set_ne false hij]; exact h
theorem Shut2.none (ops : Array Oper) : Shut2 ops (Array.replicate ops.size false) := by
  refine ⟨by simp, fun j oj _ h => ?_⟩
  exfalso
  rcases Nat.lt_or_ge j ops.size with h' | h'
  · simp [h'] at h
  · simp [h'] at h
theorem Shut2.set {ops : Array Oper} {listed : Array Bool} {i : Nat} (h : Shut2 ops listed) (hi : i ∈ Region.ready .any ops listed) : Shut2 ops (listed.setIfInBounds i true) := by
  obtain ⟨_, oi, hoi, hall⟩ := mem_ready.1 hi
  refine ⟨by simp [h.size], fun j oj hj hl e he hb => ?_⟩
  by_cases hij : i = j
  · subst hij
    have : oj = oi := Option.some.inj (hj.symm.trans hoi)
    subst this
    exact set_still (hall e he hb)
  · rw [getD_set_ne false hij] at hl
    exact set_still (h.closed j oj hj hl e he hb)
theorem waits_spec {ops : Array Oper} {j i : Nat} (h : waits ops j i = true) : ∃ oj, ops[j]? = some oj ∧ ∃ e ∈ oj.after, Region.binds .any e = true ∧ e.on = i := by
  unfold waits at h
  split at h
  · rename_i o ho
    obtain ⟨e, he, hb⟩ := Array.any_eq_true'.1 h
    simp only [Bool.and_eq_true, beq_iff_eq] at hb
    exact ⟨o, ho, e, he, hb.1, hb.2⟩
  · cases h
/-- The last one does not come up while another has not. -/
theorem last_late {ops : Array Oper} {n : Nat} {listed : Array Bool} (hl : lastB ops n = true) (hs : Shut2 ops listed) (hr : n ∈ Region.ready .any ops listed) :
    ∀ (d i : Nat), n - i = d → i < n → listed.getD i true = false → False := by
  simp only [lastB, Bool.and_eq_true, decide_eq_true_eq] at hl
  obtain ⟨hn, hsink⟩ := hl
  obtain ⟨hnu, on, hon, hall⟩ := mem_ready.1 hr
  intro d
  induction d using Nat.strongRecOn with
  | _ d ih =>
    intro i hd hi hun
    obtain ⟨j, hj, hj2⟩ := List.any_eq_true.1 (List.all_eq_true.1 hsink i (List.mem_range.2 hi))
    simp only [Bool.and_eq_true, decide_eq_true_eq] at hj2
    have hj3 := List.mem_range.1 hj
    obtain ⟨oj, hoj, e, he, hb, heq⟩ := waits_spec hj2.2
    have no : ∀ b : Bool, listed.getD e.on false = b → b = true → False := fun b h1 h2 => by
      rw [heq, un_both hun] at h1; rw [← h1] at h2; cases h2
    by_cases hjn : j = n
    · subst hjn
      have : oj = on := Option.some.inj (hoj.symm.trans hon)
      subst this
      exact no _ rfl (hall e he hb)
    · cases hlj : listed.getD j false with
      | true => exact no _ rfl (hs.closed j oj hoj hlj e he hb)
      | false => exact ih (n - j) (by omega) j rfl (by omega) (un_in (by rw [hs.size]; omega) hlj)

/-- Whatever order is picked from here on, S held behind each but the last. -/
def wpL (P : Program) (ops : Array Oper) (Q : Exit → Act → World → Prop) (S : World → Prop) : Nat → Array Bool → Act → World → Prop
  | 0, listed, a, w => Region.ready .any ops listed = [] ∧ Q .normal a w
  | fuel + 1, listed, a, w =>
    (Region.ready .any ops listed = [] → Q .normal a w) ∧
    ∀ i ∈ Region.ready .any ops listed, wpOp P ops Q i (fun a' w' => (lastB ops i = false → S w') ∧ wpL P ops Q S fuel (listed.setIfInBounds i true) a' w') a w
theorem wpL_imp {P : Program} {ops : Array Oper} {Q : Exit → Act → World → Prop} {S S' : World → Prop} (hS : ∀ w, S' w → S w) : ∀ (n : Nat) (listed : Array Bool) (a : Act) (w : World), wpL P ops Q S' n listed a w → wpL P ops Q S n listed a w
  | 0, _, _, _, h => h
  | n + 1, _, _, _, h => ⟨h.1, fun i hi => wpOp_mono (fun _ _ h' => ⟨fun hh => hS _ (h'.1 hh), wpL_imp hS n _ _ _ h'.2⟩) (h.2 i hi)⟩
theorem wpL_any {P : Program} {ops : Array Oper} {Q : Exit → Act → World → Prop} {S : World → Prop} : ∀ (n : Nat) (listed : Array Bool) (a : Act) (w : World), wpL P ops Q S n listed a w → wpAny P .any ops Q n listed a w
  | 0, _, _, _, h => h
  | n + 1, _, _, _, h => ⟨h.1, fun i hi => wpOp_mono (fun _ _ h' => wpL_any n _ _ _ h'.2) (h.2 i hi)⟩
theorem wpL_done {P : Program} {ops : Array Oper} {Q : Exit → Act → World → Prop} {S : World → Prop} {listed : Array Bool} {a : Act} {w : World} (hr : Region.ready .any ops listed = []) (h : Q .normal a w) : ∀ n, wpL P ops Q S n listed a w
  | 0 => ⟨hr, h⟩
  | _ + 1 => ⟨fun _ => h, by rw [hr]; simp⟩
theorem wpL_all {P : Program} {ops : Array Oper} {Q : Exit → Act → World → Prop} {S : World → Prop} {rs : List Nat} {n : Nat} {listed : Array Bool} {a : Act} {w : World} (hr : Region.ready .any ops listed = rs) (hne : rs ≠ [])
    (h : ∀ i ∈ rs, wpOp P ops Q i (fun a' w' => (lastB ops i = false → S w') ∧ wpL P ops Q S n (listed.setIfInBounds i true) a' w') a w) : wpL P ops Q S (n + 1) listed a w :=
  ⟨fun h0 => absurd (hr ▸ h0) hne, hr ▸ h⟩
theorem wpL_first {P : Program} {ops : Array Oper} {Q : Exit → Act → World → Prop} {S : World → Prop} {i : Nat} {oi : Oper} {v : Value} (hi : ops[i]? = some oi) (hsel : ∀ (j : Nat) (o : Oper) cs b, ops[j]? = some o → o.op ≠ .select cs b)
    (hQ : ∀ c a w, Q (.panic c) (a.put oi.dst v) w → Q (.panic c) a w) :
    ∀ (n : Nat) (listed : Array Bool) (a : Act) (w : World), Shut2 ops listed →
      (∀ j oj, ops[j]? = some oj → j ≠ i → listed.getD j true = false → (∀ e ∈ oj.after, Region.binds .any e = true → e.on ≠ i) → oi.apart ops oj = true) →
      i ∈ Region.ready .any ops listed → YieldsIf P ops S oi v a → S w →
      wpL P ops Q S n (listed.setIfInBounds i true) (a.put oi.dst v) w → wpL P ops Q S (n + 1) listed a w := by
  intro n
  induction n with
  | zero =>
    intro listed a w _ _ hr hy hS H
    refine ⟨fun h => (by rw [h] at hr; cases hr), fun j hj => ?_⟩
    by_cases hji : j = i
    · subst hji; exact hy.wpOp hi hS ⟨fun _ => hS, H⟩
    · have := ready_mono hj hji
      rw [H.1] at this
      cases this
  | succ n ih =>
    intro listed a w hsh hfree hr hy hS H
    refine ⟨fun h => (by rw [h] at hr; cases hr), fun j hj => ?_⟩
    by_cases hji : j = i
    · subst hji; exact hy.wpOp hi hS ⟨fun _ => hS, H⟩
    · have h1 := H.2 j (ready_mono hj hji)
      obtain ⟨hjun, oj, hoj, hall⟩ := mem_ready.1 hj
      have hiun := (mem_ready.1 hr).1
      have hnl : lastB ops j = false := by
        cases hl : lastB ops j with
        | false => rfl
        | true =>
          exfalso
          have hl' := hl
          simp only [lastB, Bool.and_eq_true, decide_eq_true_eq] at hl'
          have hilt : i < ops.size := (Array.getElem?_eq_some_iff.1 hi).1
          exact last_late hl hsh hj _ i rfl (by omega) hiun
      have hnot : ∀ e ∈ oj.after, Region.binds .any e = true → e.on ≠ i := fun e he hb heq => by
        have h1 := hall e he hb
        rw [heq, un_both hiun] at h1
        cases h1
      have h2 := wpOp_putIf hoj (hfree j oj hoj hji hjun hnot) (fun cs b => hsel i oi cs b hi) (fun cs b => hsel j oj cs b hoj) hQ hy h1
      have hfree' : ∀ k ok, ops[k]? = some ok → k ≠ i → (listed.setIfInBounds j true).getD k true = false →
          (∀ e ∈ ok.after, Region.binds .any e = true → e.on ≠ i) → oi.apart ops ok = true := fun k ok hk hki hun hno => by
        refine hfree k ok hk hki ?_ hno
        by_cases hjk : j = k
        · subst hjk; exact hjun
        · rw [getD_set_ne true hjk] at hun; exact hun
      refine wpOp_mono (fun a' w' h3 => ⟨h3.2.1, ih (listed.setIfInBounds j true) a' w' (hsh.set hj) hfree' (ready_mono hr (Ne.symm hji)) h3.1 (h3.2.1 hnl) ?_⟩) h2
      rw [Array.setIfInBounds_comm _ _ hji]
      exact h3.2.2
theorem wpL_take {P : Program} {ops : Array Oper} {Q : Exit → Act → World → Prop} {S : World → Prop} {i : Nat} {oi : Oper} {v : Value} {n : Nat} {listed : Array Bool} {a : Act} {w : World} (hi : ops[i]? = some oi) (hsh : Shut2 ops listed)
    (hs : Region.noSelect ops = true) (hf : Region.free .any ops listed i = true) (hr : (Region.ready .any ops listed).contains i = true)
    (hQ : ∀ c a w, Q (.panic c) (a.put oi.dst v) w → Q (.panic c) a w) (hy : YieldsIf P ops S oi v a) (hS : S w)
    (h : wpL P ops Q S n (listed.setIfInBounds i true) (a.put oi.dst v) w) : wpL P ops Q S (n + 1) listed a w :=
  wpL_first hi (Region.noSelect_spec hs) hQ n listed a w hsh (Region.free_spec hi hf) (by simpa using hr) hy hS h

theorem xval_ld (s : St) (x : XOp) (hok : (xval s x).ok) : ∀ i ∈ (xval s x).ld, i < s.heap.length := by
  cases x with
  | load1 y =>
    show ∀ i ∈ (vLoad1 s.heap (s.get y)).ld, _
    replace hok : (vLoad1 s.heap (s.get y)).ok := hok
    unfold vLoad1 at hok ⊢
    split at hok
    · split at hok
      · rename_i hh
        split at hok
        · intro i hi
          simp [*] at hi
          subst hi
          exact (List.getElem?_eq_some_iff.1 hh).1
        · exact hok.elim
      · exact hok.elim
    · intro i hi; simp [Val.of] at hi
    · exact hok.elim
  | loadN n y =>
    show ∀ i ∈ (vLoadN s.heap n (s.get y)).ld, _
    replace hok : (vLoadN s.heap n (s.get y)).ok := hok
    unfold vLoadN at hok ⊢
    split at hok
    · split at hok
      · rename_i hh
        intro i hi
        simp at hi
        subst hi
        exact (List.getElem?_eq_some_iff.1 hh).1
      · exact hok.elim
    · intro i hi; simp at hi
    · exact hok.elim
  | lookup ks n one c z y k =>
    show ∀ i ∈ (vLookup s.heap ks n one c z (s.get y) (s.get k)).ld, _
    replace hok : (vLookup s.heap ks n one c z (s.get y) (s.get k)).ok := hok
    unfold vLookup at hok ⊢
    split at hok
    · split at hok
      · intro i hi; simp at hi
      · split at hok
        · rename_i p hp
          intro i hi
          simp [*] at hi
          subst hi
          unfold mapAt at hp
          cases hc : s.heap[i]? with
          | none => rw [hc] at hp; cases hp
          | some cs => exact (List.getElem?_eq_some_iff.1 hc).1
        · exact hok.elim
      · exact hok.elim
    · exact hok.elim
  | lenM n one y =>
    show ∀ i ∈ (vLenM s.heap n one (s.get y)).ld, _
    replace hok : (vLenM s.heap n one (s.get y)).ok := hok
    unfold vLenM at hok ⊢
    split at hok
    · intro i hi; simp [Val.of] at hi
    · split at hok
      · rename_i p hp
        intro i hi
        simp [*] at hi
        subst hi
        unfold mapAt at hp
        cases hc : s.heap[i]? with
        | none => rw [hc] at hp; cases hp
        | some cs => exact (List.getElem?_eq_some_iff.1 hc).1
      · exact hok.elim
    · exact hok.elim
  | entry y =>
    show ∀ i ∈ (vEntry s.heap (s.get y)).ld, _
    replace hok : (vEntry s.heap (s.get y)).ok := hok
    unfold vEntry at hok ⊢
    split at hok
    · rename_i j0 i0 n0 one0 heq0
      split at hok
      · rename_i q p hq hp
        split at hok
        · intro i hi
          have hi' : i = j0 ∨ i = i0 := by simpa using hi
          unfold itAt at hq
          unfold mapAt at hp
          rcases hi' with rfl | rfl
          · cases hc : s.heap[i]? with
            | none => rw [hc] at hq; cases hq
            | some cs => exact (List.getElem?_eq_some_iff.1 hc).1
          · cases hc : s.heap[i]? with
            | none => rw [hc] at hp; cases hp
            | some cs => exact (List.getElem?_eq_some_iff.1 hc).1
        · exact hok.elim
      · exact hok.elim
    · exact hok.elim
  | _ =>
    intro i hi
    exfalso
    revert hi
    simp only [xval, vPick, vBuild, vNil, vBin, vBeq, vNilEq, vPnil, vInil, vAeq, vB2s, vUn, vConv, vSame, vSlice, vSliceS, vFaddr, vIaddr, vIaddrA, vIdxS, vExtract, vFld, vLenS, vLenL, vMax, vMin, vMnil, Val.of, Val.bad]
    repeat' split
    all_goals simp

theorem cop_assign {P : Program} {op : Op} {y : Operand} (h : cop P op = some (.assign y)) : op = .assign y := by
  unfold cop at h
  split at h
  all_goals first
    | (injection h with h; injection h with h; subst h; rfl)
    | (exfalso; revert h; (try unfold copBuild); (try unfold copBuildSlice); (try unfold copBin); (try unfold copAeq); (try unfold copConv); (try unfold copSlice); (try unfold copField); (try unfold copFld); (try unfold copI); (try unfold copLoad); (try unfold copCall); (try unfold copAppend); (try unfold copLen); (try unfold copLookup); (try unfold copMake); (try unfold copMakeS); (try unfold copIaddr); (try unfold copUpd); (try unfold copDel); (try unfold copClear); (try unfold copRange); (try unfold Option.map)
       repeat' split
       all_goals first | (simp; done) | (intro h; cases copCopy_is h))

section
variable {P : Program} {C : Ctx} {N : Nat} {Q : Exit → Act → World → Prop} {ops : Array Oper}
theorem SS.here {G : Ghost} {cls : Nat → Id} {s : St} {a : Act} {w : World} (h : Rel C N G cls s a w) (ld : List Nat) : SS G ld w := ⟨G, Ext.refl G, h.ok, fun _ _ _ => rfl⟩
theorem SS.back {G G' : Ghost} {s s' : St} (h : Stays G G' s s') (hl : G.boxv.length ≤ G'.boxv.length) {ld ld' : List Nat} (hld : ∀ i ∈ ld, i ∈ ld') (hf : fresh ld s s') {w : World} (hw : SS G' ld' w) : SS G ld w := by
  obtain ⟨G2, h1, h2, h3⟩ := hw
  obtain ⟨l, h4, h5⟩ := h.grow
  refine ⟨G2, h.ext.trans h1, h2, fun i hi hlt => (h3 i (hld i hi) (by omega)).trans (h5 i hlt fun hh => hf i hi ?_)⟩
  rw [h4]
  simp [hh]
theorem SS.less {G : Ghost} {ld ld' : List Nat} (hld : ∀ i ∈ ld, i ∈ ld') {w : World} (hw : SS G ld' w) : SS G ld w := by
  obtain ⟨G2, h1, h2, h3⟩ := hw
  exact ⟨G2, h1, h2, fun i hi hlt => h3 i (hld i hi) hlt⟩
theorem fresh_same {s s' : St} (ld : List Nat) (h : s'.wr = s.wr) : fresh ld s s' := fun i hi => by rw [h]; simp

/-- One that comes up: whatever it makes. -/
theorem step_sound {i : Nat} {o : Oper} {x : XOper} (hi : ops[i]? = some o) (hx : cooper P N ops o = some x) {s : St} {ld : List Nat} {K : St → List Nat → Prop} (h : xstep P x s ld K) {G : Ghost} {cls : Nat → Id} {a : Act} {w : World} (hR : Rel C N G cls s a w)
    {n : Nat} {listed : Array Bool} (hK : ∀ s' ld' G' cls' a' w', K s' ld' → Rel C N G' cls' s' a' w' → wpL P ops (NoPanic Q) (SS G' ld') n (listed.setIfInBounds i true) a' w') :
    wpOp P ops (NoPanic Q) i (fun a' w' => (lastB ops i = false → SS G ld w') ∧ wpL P ops (NoPanic Q) (SS G ld) n (listed.setIfInBounds i true) a' w') a w := by
  rcases cooper_spec (C := C) hx with ⟨hb, hg⟩ | ⟨h1, h2, h3, h4⟩
  · exfalso
    unfold xstep xguard xwant at h
    rw [hg, hb] at h
    exact h.1
  unfold xstep xguard at h
  unfold wpOp
  simp only [hi]
  split at h
  · rename_i hw
    rw [if_pos (h4 G cls s a w hR true hw)]
    rw [h3] at h
    obtain ⟨s', l, ⟨hf, hk⟩, hS⟩ := xop_sound (C := C) (N := N) (Q := NoPanic Q) o x.op h1 h2 _ h
    refine .inl (Oper.wp_mono (fun a' w' hh => ?_) (hS G cls a w hR))
    obtain ⟨G', cls', hR', hS'⟩ := hh
    have hl := hR.boxLen hR' hS'.ext
    have hb : ∀ w, SS G' (l ++ ld) w → SS G ld w := fun w hw => hw.back hS' hl (fun i hi => List.mem_append_right _ hi) hf
    exact ⟨fun _ => hb _ (.here hR' _), wpL_imp hb _ _ _ _ (hK s' _ G' cls' a' w' hk hR')⟩
  · rename_i hw
    rw [h4 G cls s a w hR false hw, if_neg (by simp)]
    have hR' := hR.puts (d := x.dst) (v := undef) (o := false) (fun d hd => fits_dst h2 d (by rw [← h3]; exact hd)) (.v undef) trivial (fun _ => rfl)
    rw [h3] at hR' h
    exact ⟨fun _ => .here hR' _, hK _ _ G cls _ w h hR'⟩
  · exact h.elim
/-- The last one. -/
theorem last_sound {i : Nat} {o : Oper} {x : XOper} (hi : ops[i]? = some o) (hx : cooper P N ops o = some x) (hl : lastB ops i = true) {s : St} {ld : List Nat} {K : St → Prop} (h : xtree P (.last x) s ld K) {G : Ghost} {cls : Nat → Id} {a : Act} {w : World} (hR : Rel C N G cls s a w)
    {n : Nat} {listed : Array Bool} (hr : Region.ready .any ops (listed.setIfInBounds i true) = []) {S : World → Prop} (hK : ∀ s' G' cls' a' w', K s' → Rel C N G' cls' s' a' w' → Q .normal a' w') :
    wpOp P ops (NoPanic Q) i (fun a' w' => (lastB ops i = false → S w') ∧ wpL P ops (NoPanic Q) S n (listed.setIfInBounds i true) a' w') a w := by
  have no : ∀ w, lastB ops i = false → S w := fun w hh => by rw [hl] at hh; cases hh
  rcases cooper_spec (C := C) hx with ⟨hb, hg⟩ | ⟨h1, h2, h3, h4⟩
  · exfalso
    unfold xtree xguard xwant at h
    rw [hg, hb] at h
    exact h.1
  unfold xtree xguard at h
  unfold wpOp
  simp only [hi]
  split at h
  · rename_i hw
    rw [if_pos (h4 G cls s a w hR true hw)]
    rw [h3] at h
    obtain ⟨s', l, hk, hS⟩ := xop_sound (C := C) (N := N) (Q := NoPanic Q) o x.op h1 h2 _ h
    refine .inl (Oper.wp_mono (fun a' w' hh => ?_) (hS G cls a w hR))
    obtain ⟨G', cls', hR', hS'⟩ := hh
    exact ⟨no _, wpL_done hr (NoPanic.normal (hK s' G' cls' a' w' hk hR')) _⟩
  · rename_i hw
    rw [h4 G cls s a w hR false hw, if_neg (by simp)]
    have hR' := hR.puts (d := x.dst) (v := undef) (o := false) (fun d hd => fits_dst h2 d (by rw [← h3]; exact hd)) (.v undef) trivial (fun _ => rfl)
    rw [h3] at hR' h
    exact ⟨no _, wpL_done hr (NoPanic.normal (hK _ G cls _ w h hR')) _⟩
  · exact h.elim
/-- One that is taken first. -/
theorem take_sound {i : Nat} {o : Oper} {x : XOper} (hi : ops[i]? = some o) (hx : cooper P N ops o = some x) (hq : x.op.quiet = true) {s : St} {ld : List Nat} {K : St → List Nat → Prop} (h : xstepQ P x s ld K) {G : Ghost} {cls : Nat → Id} {a : Act} {w : World} (hR : Rel C N G cls s a w)
    {n : Nat} {listed : Array Bool} (hs : Region.noSelect ops = true) (hsh : Shut2 ops listed) (hf : Region.free .any ops listed i = true) (hr : i ∈ Region.ready .any ops listed)
    (hK : ∀ s' ld' G' cls' a' w', K s' ld' → Rel C N G' cls' s' a' w' → wpL P ops (NoPanic Q) (SS G' ld') n (listed.setIfInBounds i true) a' w') : wpL P ops (NoPanic Q) (SS G ld) (n + 1) listed a w := by
  rcases cooper_spec (C := C) hx with ⟨hb, _⟩ | ⟨h1, h2, h3, h4⟩
  · rw [hb] at hq; cases hq
  have hr' : (Region.ready .any ops listed).contains i = true := by simpa using hr
  unfold xstepQ xguard at h
  split at h
  · rename_i hw
    have hwant := h4 G cls s a w hR true hw
    rw [h3] at h
    by_cases hv : x.op.isVal = true
    · -- a value
      have hx2 : (xval s x.op).ok ∧ K (s.puts o.dst (xval s x.op).val (xval s x.op).own) ((xval s x.op).ld ++ ld) := by
        generalize x.op = y at h hv
        cases y <;> first | exact h | exact absurd hv (by simp [XOp.isVal])
      obtain ⟨v, e1, e2, e3, e4⟩ := val_sound hR o x.op h1 hv h2 hx2.1
      have hR' := hR.puts (fits_dst h2) e1 e2 e3
      have hld := xval_ld s x.op hx2.1
      refine wpL_imp (S' := SS G ((xval s x.op).ld ++ ld)) (fun w hw => hw.less fun i hi => List.mem_append_right _ hi) _ _ _ _ ?_
      refine wpL_take (v := v) hi hsh hs hf hr' (fun _ _ _ hh => hh) (.inl ⟨hwant, fun w hw => ?_⟩) (.here hR _) (hK _ _ G cls _ w hx2.2 hR')
      obtain ⟨G2, g1, g2, g3⟩ := hw
      exact e4 G2 w g1 g2 fun i hi => g3 i (List.mem_append_left _ hi) (by rw [← hR.heap.1]; exact hld i hi)
    · -- what a variable in a slot is given
      obtain ⟨y, hy⟩ : ∃ y, x.op = .assign y := by
        generalize x.op = z at hq hv
        cases z <;> first | exact ⟨_, rfl⟩ | exact absurd hq hv
      have ho : o.op = .assign y := by
        rw [hy] at h1; exact cop_assign h1
      rw [hy] at h
      unfold xop at h
      dsimp only at h
      split at h
      · rename_i d hd
        have hrun : ∀ w, (execOp a.eval o).run P w = .ok (.value (a.eval y)) w := fun w => by unfold execOp; rw [ho]; rfl
        have he := eff_assign (P := P) (C := C) (N := N) (s := s) (Q := NoPanic Q) o y ho d hd h2 G cls a w hR
        unfold Oper.wp at he
        rw [hrun w] at he
        obtain ⟨G', cls', hR', hS'⟩ := he
        have hl := hR.boxLen hR' hS'.ext
        have hwr : (s.assigned d y).wr = s.wr := by
          unfold St.assigned; repeat' split
          all_goals rfl
        refine wpL_take (v := a.eval y) hi hsh hs hf hr' (fun _ _ _ hh => hh) (.inl ⟨hwant, fun w _ => hrun w⟩) (.here hR _) ?_
        exact wpL_imp (fun w hw => hw.back hS' hl (fun i hi => hi) (fresh_same ld hwr)) _ _ _ _ (hK _ ld G' cls' _ w (by simpa [hold] using h) hR')
      · exact h.elim
  · rename_i hw
    have hwant := h4 G cls s a w hR false hw
    have hR' := hR.puts (d := x.dst) (v := undef) (o := false) (fun d hd => fits_dst h2 d (by rw [← h3]; exact hd)) (.v undef) trivial (fun _ => rfl)
    rw [h3] at hR' h
    exact wpL_take (v := undef) hi hsh hs hf hr' (fun _ _ _ hh => hh) (.inr ⟨hwant, rfl⟩) (.here hR _) (hK _ _ G cls _ w h hR')
  · exact h.elim
theorem tree_sound (hs : Region.noSelect ops = true) : ∀ (n : Nat) (listed : Array Bool) (t : XTree), Shut2 ops listed → ctree P N ops n listed = some t → ∀ (s : St) (ld : List Nat) (K : St → Prop) (G : Ghost) (cls : Nat → Id) (a : Act) (w : World), Rel C N G cls s a w → xtree P t s ld K →
    (∀ s' G' cls' a' w', K s' → Rel C N G' cls' s' a' w' → Q .normal a' w') → wpL P ops (NoPanic Q) (SS G ld) n listed a w
  | 0, listed, t, hsh, ht, s, ld, K, G, cls, a, w, hR, hx, hK => by
    unfold ctree at ht
    split at ht
    · rename_i hr
      injection ht with ht; subst ht
      exact ⟨hr, hK s G cls a w hx hR⟩
    · cases ht
  | n + 1, listed, t, hsh, ht, s, ld, K, G, cls, a, w, hR, hx, hK => by
    have next : ∀ (i : Nat), i ∈ Region.ready .any ops listed → ∀ (t' : XTree), ctree P N ops n (listed.setIfInBounds i true) = some t' → ∀ (s' : St) (ld' : List Nat) (G' : Ghost) (cls' : Nat → Id) (a' : Act) (w' : World), xtree P t' s' ld' K → Rel C N G' cls' s' a' w' → wpL P ops (NoPanic Q) (SS G' ld') n (listed.setIfInBounds i true) a' w' :=
      fun i hri t' ht' s' ld' G' cls' a' w' hx' hR' => tree_sound hs n _ t' (hsh.set hri) ht' s' ld' K G' cls' a' w' hR' hx' hK
    unfold ctree at ht
    split at ht
    · rename_i hr
      injection ht with ht; subst ht
      exact wpL_done hr (NoPanic.normal (hK s G cls a w hx hR)) _
    · rename_i i0 r hr
      split at ht
      · rename_i i hfind
        split at ht
        · rename_i o hi
          split at ht
          · rename_i x t' hx' ht'
            injection ht with ht; subst ht
            have hp := List.find?_some hfind
            have hmem := List.mem_of_find?_eq_some hfind
            simp only [hi, hx', Bool.and_eq_true] at hp
            exact take_sound hi hx' hp.1 hx hR hs hsh hp.2 (by rw [hr]; exact hmem) (next i (by rw [hr]; exact hmem) t' ht')
          · cases ht
        · cases ht
      · split at ht
        · split at ht
          · rename_i o hi
            split at ht
            · rename_i x t' hx' ht'
              injection ht with ht
              refine wpL_all hr (by simp) fun i hm => ?_
              have : i = i0 := by simpa using hm
              subst this
              split at ht
              · rename_i hlast
                simp only [Bool.and_eq_true, List.isEmpty_iff] at hlast
                subst ht
                exact last_sound hi hx' hlast.1.2 (s := s) (ld := ld) hx hR hlast.2 hK
              · subst ht
                exact step_sound hi hx' hx hR (next i (by rw [hr]; exact hm) t' ht')
            · cases ht
          · cases ht
        · rename_i _ j _
          split at ht
          · rename_i o p hi hj
            split at ht
            · rename_i x t1 y t2 hx1 ht1 hx2 ht2
              injection ht with ht; subst ht
              refine wpL_all hr (by simp) fun i hm => ?_
              rcases (by simpa using hm : i = i0 ∨ i = j) with rfl | rfl
              · exact step_sound hi hx1 hx.1 hR (next i (by rw [hr]; simp) t1 ht1)
              · exact step_sound hj hx2 hx.2 hR (next i (by rw [hr]; simp) t2 ht2)
            · cases ht
          · cases ht
        · split at ht
          · refine wpL_all hr (by simp) fun i hm => ?_
            obtain ⟨x, t', hf, hx1⟩ := calts_spec ht hx i hm
            split at hf
            · rename_i o hi
              split at hf
              · rename_i x' t2 hx2 ht2
                injection hf with hf
                injection hf with hf1 hf2
                subst hf1 hf2
                exact step_sound hi hx2 hx1 hR (next i (by rw [hr]; exact hm) _ ht2)
              · cases hf
            · cases hf
          · cases ht
/-- No operation is put off. -/
def noDefer (ops : Array Oper) : Bool := ops.toList.all fun o => match o.op with
  | .defer _ => false
  | _ => true
theorem noDefer_spec {ops : Array Oper} (h : noDefer ops = true) (i : Nat) (o : Oper) (ho : ops[i]? = some o) : ∀ c, o.op ≠ .defer c := fun c e => by
  have := List.all_eq_true.1 h o (List.mem_of_getElem? (by simpa using ho))
  rw [e] at this
  cases this
/-- A region that draws. -/
theorem draws_sound {rr : Option Nat} {id : Nat} (hm : P.follows .mixedOrders = true) (hs : Region.noSelect ops = true) (hnd : noDefer ops = true) (hq : ∀ a w, ¬ Q .outgrown a w) {t : XTree} (ht : ctree P N ops ops.size (Array.replicate ops.size false) = some t) {s : St} {K : St → Prop} {G : Ghost} {cls : Nat → Id} {a : Act} {w : World} (hR : Rel C N G cls s a w) (hx : xtree P t s [] K)
    (hK : ∀ s' G' cls' a' w', K s' → Rel C N G' cls' s' a' w' → Q .normal a' w') : (Code.region id ops true).wpIn (Fr rr) 0 P Q a w :=
  wpIn_mono (wpIn_region_any hm (wpAny_in hq (noDefer_spec hnd) _ _ _ _ (wpL_any _ _ _ _ (tree_sound hs _ _ t (Shut2.none ops) ht s [] K G cls a w.drew hR.drew hx hK)))) NoPanic.imp
end
end Go.Proofs.YtofkddajlgebjaaGreat.Ax
/- A scope, in a function's frame or a round's. No program is named here. -/
namespace Go.Proofs.YtofkddajlgebjaaGreat.Ax
open Go.RowKit Go By
section
variable {F : Fence} {n : Nat} {P : Program} {b : Frame} {a : Act} {k : List Item} {cs : List Frame} {w : World} {Q : Exit → Act → World → Prop}
theorem stepR_scope {c : Code} : step P (lone (b.atR a (.code (.scope c) :: k)) cs w) = .next (lone (b.atR a (.code c :: .inScope c :: k)) cs w) :=
  step_lone_go (by simp [stepG, stepG.exec, Frame.atR])
theorem stepR_inScope {c : Code} : step P (lone (b.atR a (.inScope c :: k)) cs w) = .next (lone (b.atR a k) cs w) :=
  step_lone_go (by simp [stepG, stepG.exec, Frame.atR])
theorem wpIn_scope_straight {c : Code} (h : c.wpIn F n P (Exit.noGoto Q) a w) : (Code.scope c).wpIn F n P Q a w := by
  intro b k cs hro hb hr
  have h0 : (lone (b.atR a (.code (.scope c) :: k)) cs w).fenced P F := fenced_calm hb hr rfl
  obtain ⟨e, a₁, w₁, hq, harr⟩ := h b (.inScope c :: k) cs hro hb hr
  cases e with
  | normal => exact ⟨.normal, a₁, w₁, hq, .head h0 stepR_scope (StepsIn.trans harr (.one (fenced_calm hb hr rfl) stepR_inScope))⟩
  | exit id =>
    have hx : exitTo id (.inScope c :: k) = exitTo id k := by simp [exitTo]
    exact ⟨_, a₁, w₁, hq, fun k' hk => .head h0 stepR_scope (harr.1 k' (by rw [hx]; exact hk)),
      fun hr' hk => let ⟨k₁, h1, h2⟩ := harr.2 hr' (by rw [hx]; exact hk); ⟨k₁, h1, .head h0 stepR_scope h2⟩⟩
  | goto l => exact hq.elim
  | ret => exact ⟨_, a₁, w₁, hq, .of_steps (.one h0 stepR_scope) harr⟩
  | panic ch => exact ⟨_, a₁, w₁, hq, .of_steps (.one h0 stepR_scope) harr⟩
  | outgrown => exact ⟨_, a₁, w₁, hq, .of_steps (.one h0 stepR_scope) harr⟩
end
/-! ### What a loop over a function left to be done, done -/
def Ghost.dropO (G : Ghost) (D : Nat) : Ghost := { G with objs := fun b => if b = D then none else G.objs b }
theorem Sees.dropO {G : Ghost} (D : Nat) {x : AV} {v : Value} (h : Sees G x v) : Sees (G.dropO D) x v := by
  induction h with
  | v x => exact .v x
  | any x => exact .any x
  | box i off b hb => exact Sees.box (G := G.dropO D) i off b hb
  | ro cs b o u hc hs h1 ih => exact .ro cs b o u hc ih h1
  | sl k es nul room a len cap u hlen hn hk hcap hm hr hc hs h1 ih => exact .sl k es nul room a len cap u hlen hn hk hcap hm hr hc ih h1
  | fn f first cap us vs h1 h2 hs1 hs2 ih1 ih2 => exact .fn f first cap us vs h1 h2 ih1 ih2
  | agg cs us hl hs h1 ih => exact .agg cs us hl ih h1
  | tup cs us hl hs ih => exact .tup cs us hl ih
  | bsl i off k n b cap hb hcap hm o ho => exact Sees.bsl (G := G.dropO D) i off k n b cap hb hcap hm o ho
  | yld i b r c slots hb hk hl hs ih => exact .yld i b r c slots hb hk hl ih
  | mp i b n one hb hk => exact .mp i b n one hb hk
  | ifc t a x h ih => exact .ifc t a x ih
  | itr i b n one im mb hb hk hm => exact .itr i b n one im mb hb hk (by cases im <;> exact hm)
theorem markOf_inj : ∀ {l m : List Nat}, l.map markOf = m.map markOf → l = m
  | [], [], _ => rfl
  | a :: l, b :: m, h => by
    simp only [List.map_cons, List.cons.injEq] at h
    obtain ⟨h1, h2⟩ := h
    have e : a = b := by injection h1 with h1 _; injection h1
    rw [e, markOf_inj h2]
  | [], b :: m, h => by simp at h
  | a :: l, [], h => by simp at h
section
variable {C : Ctx} {N : Nat} {G : Ghost} {cls : Nat → Id} {s : St} {a : Act} {w : World}
theorem Rel.shut (h : Rel C N G cls s a w) {D : Nat} {Ds : List Nat} (hd : a.defers = (D :: Ds).map markOf) :
    w.heap[D]? = some (.deferred (some [])) ∧ Rel C N (G.dropO D) cls s { a with defers := Ds.map markOf } (w.putObj D (.deferred none)) := by
  obtain ⟨Ds', e, hnd, hall⟩ := h.defers
  obtain rfl : Ds' = D :: Ds := markOf_inj (e.symm.trans hd)
  obtain ⟨ho, hg0, hlow⟩ := hall D (List.mem_cons_self ..)
  have hobj := (h.ok.obj.obj D _ ho).1
  have hlt : D < w.heap.size := (Array.getElem?_eq_some_iff.1 hobj).1
  have hsame := World.putObj_heap_same (w := w) (o := .deferred none) hlt
  have cellD : ∀ b j, (w.putObj D (.deferred none)).cell? ⟨b, j, none⟩ = w.cell? ⟨b, j, none⟩ ∧ (w.putObj D (.deferred none)).frozen? ⟨b, j, none⟩ = w.frozen? ⟨b, j, none⟩ := fun b j => by
    by_cases hb : b = D
    · subst hb
      simp [World.cell?, World.frozen?, hobj, hsame]
    · have := World.putObj_heap_other (w := w) (o := .deferred none) hb
      exact ⟨World.cell?_of_block (a := ⟨b, j, none⟩) this, World.frozen?_of_block (a := ⟨b, j, none⟩) this⟩
  have hne : ∀ (b : Nat) (κ : Kind) (vs : List Value), w.heap[b]? = some (κ.obj vs) → b ≠ D := fun b κ vs hb e => by
    subst e
    rw [hobj] at hb
    injection hb with hb
    exact κ.notDeferred vs _ hb
  have hW : WorldOk (G.dropO D) (w.putObj D (.deferred none)) := by
    refine ⟨h.ok.below.trans ⟨rfl, rfl, rfl, by simp, fun k hk => World.putObj_heap_other (by omega)⟩, fun b B hB => ?_, fun i b vs h1 h2 => ?_, h.ok.nodup2, h.ok.len, fun b o hb => ?_, fun i b vs κ h1 h2 h3 => ?_, fun b hb => ?_, fun b j hj => ?_⟩
    · obtain ⟨q1, q2, q3, q4, q5⟩ := h.ok.buf b B hB
      exact ⟨q1, by simpa using q2, q3, fun j hj => by rw [(cellD b j).1, (cellD b j).2]; exact q4 j hj, fun j x hx => by rw [(cellD b j).1]; exact q5 j x hx⟩
    · obtain ⟨q1, q2, q3, q4⟩ := h.ok.box i b vs h1 h2
      exact ⟨q1, by simpa using q2, q3, fun j x hx => by rw [(cellD b _).1, (cellD b _).2]; exact q4 j x hx⟩
    · have hb' : (if b = D then none else G.objs b) = some o := hb
      split at hb'
      · cases hb'
      · rename_i hbD
        obtain ⟨q1, q2⟩ := h.ok.obj.obj b o hb'
        exact ⟨(World.putObj_heap_other hbD).trans q1, q2⟩
    · obtain ⟨q1, q2⟩ := h.ok.obj.kbox i b vs κ h1 h2 h3
      exact ⟨(World.putObj_heap_other (hne b κ vs q1)).trans q1, q2⟩
    · simpa using h.ok.obj.kind b hb
    · rw [(cellD b j).1, (cellD b j).2]; exact h.ok.obj.room b j hj
  refine ⟨hobj, hW, ⟨h.heap.1, fun i cs vs h1 h2 => ?_⟩, h.ownh, fun t ht => ⟨(h.env t ht).1.dropO D, (h.env t ht).2⟩, h.plain, h.size, ?_, ⟨h.ext.w0, h.ext.bufs, h.ext.boxes, fun b o hb => ?_, h.ext.objs.2⟩, h.boxes, h.bufs⟩
  · obtain ⟨q1, q2, q3⟩ := h.heap.2 i cs vs h1 h2
    exact ⟨q1, q2, fun j c hj => (q3 j c hj).dropO D⟩
  · have hnd' := List.nodup_cons.1 hnd
    refine ⟨Ds, rfl, hnd'.2, fun D' hD' => ?_⟩
    obtain ⟨q1, q2, q3⟩ := hall D' (List.mem_cons_of_mem _ hD')
    refine ⟨?_, q2, q3⟩
    show (if D' = D then none else G.objs D') = _
    rw [if_neg (fun e : D' = D => hnd'.1 (e ▸ hD'))]; exact q1
  · show (if b = D then none else G.objs b) = some o
    rw [if_neg (fun e => by subst e; rw [hg0] at hb; cases hb)]
    exact h.ext.objs.1 b o hb
end
end Go.Proofs.YtofkddajlgebjaaGreat.Ax
/- The control of a function over values without memory: what follows from what it does ('xwp'), held against the model's. No program is named here. -/
namespace Go.Proofs.YtofkddajlgebjaaGreat.Ax
open Go.RowKit Go By

/-! ### What names no variable beyond the first n -/
mutual
def AV.lt (n : Nat) : AV → Prop
  | .v _ => True
  | .any => True
  | .box i _ => i < n
  | .bsl i _ _ _ => i < n
  | .yld i _ _ a => i < n ∧ ltL n a
  | .mp i _ _ => i < n
  | .itr i im _ _ => i < n ∧ match im with | none => True | some j => j < n
  | .ifc _ a => a.lt n
  | .ro cs => ltL n cs
  | .sl _ es _ _ => ltLL n es
  | .fn _ a b => ltL n a ∧ ltL n b
  | .agg cs => ltL n cs
  | .tup cs => ltL n cs
def ltL (n : Nat) : List AV → Prop
  | [] => True
  | c :: r => c.lt n ∧ ltL n r
def ltLL (n : Nat) : List (List AV) → Prop
  | [] => True
  | e :: r => ltL n e ∧ ltLL n r
end
theorem ltL_get {n : Nat} : ∀ {l : List AV}, ltL n l → ∀ (j : Nat) (c : AV), l[j]? = some c → c.lt n
  | [], _, j, c, h => by simp at h
  | x :: l, h, 0, c, e => by unfold ltL at h; simp at e; subst e; exact h.1
  | x :: l, h, j + 1, c, e => by unfold ltL at h; exact ltL_get h.2 j c (by simpa using e)
theorem ltLL_get {n : Nat} : ∀ {l : List (List AV)}, ltLL n l → ∀ (j : Nat) (e : List AV), l[j]? = some e → ltL n e
  | [], _, j, c, h => by simp at h
  | x :: l, h, 0, c, e => by unfold ltLL at h; simp at e; subst e; exact h.1
  | x :: l, h, j + 1, c, e => by unfold ltLL at h; exact ltLL_get h.2 j c (by simpa using e)
theorem ltL_append {n : Nat} : ∀ {l m : List AV}, ltL n (l ++ m) ↔ ltL n l ∧ ltL n m
  | [], m => by simp [ltL]
  | x :: l, m => by rw [List.cons_append]; simp only [ltL, ltL_append (l := l), and_assoc]
theorem ltLL_append {n : Nat} : ∀ {l m : List (List AV)}, ltLL n (l ++ m) ↔ ltLL n l ∧ ltLL n m
  | [], m => by simp [ltLL]
  | x :: l, m => by rw [List.cons_append]; simp only [ltLL, ltLL_append (l := l), and_assoc]
theorem ltLL_bytes (n : Nat) : ∀ l : List UInt8, ltLL n (bytesE l)
  | [] => trivial
  | _ :: l => ⟨⟨trivial, trivial⟩, ltLL_bytes n l⟩
def Ghost.trunc (G : Ghost) (n : Nat) : Ghost := { G with boxes := G.boxes.take n, boxv := G.boxv.take n }
theorem Sees.trunc {G : Ghost} {n : Nat} {a : AV} {x : Value} (h : Sees G a x) : a.lt n → Sees (G.trunc n) a x := by
  induction h with
  | v x => exact fun _ => .v x
  | any x => exact fun _ => .any x
  | box i off b hb =>
    intro hl
    unfold AV.lt at hl
    exact .box i off b ⟨by show (G.boxes.take n)[i]? = _; rw [List.getElem?_take, if_pos hl]; exact hb.1, hb.2⟩
  | ro cs b o u hc hs h1 ih =>
    intro hl
    unfold AV.lt at hl
    exact .ro cs b o u hc (fun j c hj => ih j c hj (ltL_get hl j c hj)) h1
  | sl k es nul room a len cap u hlen hn hk hcap hm hr hc hs h1 ih =>
    intro hl
    unfold AV.lt at hl
    exact .sl k es nul room a len cap u hlen hn hk hcap hm hr hc (fun i e he j c hj => ih i e he j c hj (ltL_get (ltLL_get hl i e he) j c hj)) h1
  | fn f first cap us vs h1 h2 hs1 hs2 ih1 ih2 =>
    intro hl
    unfold AV.lt at hl
    exact .fn f first cap us vs h1 h2 (fun j c hj => ih1 j c hj (ltL_get hl.1 j c hj)) (fun j c hj => ih2 j c hj (ltL_get hl.2 j c hj))
  | agg cs us hl0 hs h1 ih =>
    intro hl
    unfold AV.lt at hl
    exact .agg cs us hl0 (fun j c hj => ih j c hj (ltL_get hl j c hj)) h1
  | bsl i off k m b cap hb hcap hm o ho =>
    intro hl
    unfold AV.lt at hl
    exact Sees.bsl (G := G.trunc n) i off k m b cap ⟨by show (G.boxes.take _)[i]? = some b; rw [List.getElem?_take, if_pos hl]; exact hb.1, hb.2⟩ hcap hm o ho
  | ifc t a x h ih =>
    intro hl
    unfold AV.lt at hl
    exact .ifc t a x (ih hl)
  | mp i b n one hb hk =>
    intro hl
    unfold AV.lt at hl
    exact .mp i b n one (by show (G.boxes.take _)[i]? = some b; rw [List.getElem?_take, if_pos hl]; exact hb) hk
  | itr i b n one im mb hb hk hm =>
    intro hl
    unfold AV.lt at hl
    refine .itr i b n one im mb (by show (G.boxes.take _)[i]? = some b; rw [List.getElem?_take, if_pos hl.1]; exact hb) hk ?_
    cases im with
    | none => exact hm
    | some j =>
      obtain ⟨b', h1, h2, h3⟩ := hm
      exact ⟨b', h1, by show (G.boxes.take _)[j]? = some b'; rw [List.getElem?_take, if_pos hl.2]; exact h2, h3⟩
  | yld i b r c slots hb hk hl0 hs ih =>
    intro hl
    unfold AV.lt at hl
    exact .yld i b r c slots (by show (G.boxes.take _)[i]? = some b; rw [List.getElem?_take, if_pos hl.1]; exact hb) hk hl0 (fun j c hj => ih j c hj (ltL_get hl.2 j c hj))
  | tup cs us hl0 hs ih =>
    intro hl
    unfold AV.lt at hl
    exact .tup cs us hl0 (fun j c hj => ih j c hj (ltL_get hl j c hj))
theorem WorldOk.trunc {G : Ghost} {w : World} (h : WorldOk G w) (n : Nat) : WorldOk (G.trunc n) w := by
  refine ⟨h.below, h.buf, fun i b vs hb hv => ?_, ⟨h.nodup.take n, h.dom⟩, by simp [Ghost.trunc, h.len], h.obj.obj, fun i b vs κ h1 h2 h3 => ?_, h.obj.kind, h.obj.room⟩
  · have hb' : (G.boxes.take n)[i]? = some b := hb
    have hv' : (G.boxv.take n)[i]? = some vs := hv
    rw [List.getElem?_take] at hb' hv'
    split at hb'
    · rename_i hi
      rw [if_pos hi] at hv'
      exact h.box i b vs hb' hv'
    · cases hb'
  · have h1' : (G.boxes.take n)[i]? = some b := h1
    have h2' : (G.boxv.take n)[i]? = some vs := h2
    rw [List.getElem?_take] at h1' h2'
    split at h1'
    · rename_i hi
      rw [if_pos hi] at h2'
      exact h.obj.kbox i b vs κ h1' h2' h3
    · cases h1'

def leqC (i : Nat) : Nat → List AV → List AV → Prop
  | _, [], [] => True
  | j, a :: r, b :: q => LeqV (.cell i j) a b ∧ leqC i (j + 1) r q
  | _, _, _ => False
def leqH : Nat → List (List AV) → List (List AV) → Prop
  | _, [], [] => True
  | i, a :: r, b :: q => (a = b ∨ leqC i 0 a b) ∧ leqH (i + 1) r q
  | _, _, _ => False
theorem leqC_get {i : Nat} : ∀ {l m : List AV} {j : Nat}, leqC i j l m → l.length = m.length ∧ ∀ (k : Nat) (b : AV), m[k]? = some b → ∃ a, l[k]? = some a ∧ LeqV (.cell i (j + k)) a b
  | [], [], j, _ => ⟨rfl, fun k b h => by simp at h⟩
  | a :: r, b :: q, j, h => by
    unfold leqC at h
    obtain ⟨h1, h2⟩ := leqC_get h.2
    refine ⟨by simp [h1], fun k x hx => ?_⟩
    cases k with
    | zero => simp at hx; subst hx; exact ⟨a, rfl, h.1⟩
    | succ k =>
      obtain ⟨y, h3, h4⟩ := h2 k x (by simpa using hx)
      exact ⟨y, by simpa using h3, by rw [show j + (k + 1) = j + 1 + k by omega]; exact h4⟩
  | [], b :: q, j, h => by unfold leqC at h; exact h.elim
  | a :: r, [], j, h => by unfold leqC at h; exact h.elim
theorem leqH_get : ∀ {l m : List (List AV)} {i : Nat}, leqH i l m → l.length = m.length ∧ ∀ (k : Nat) (ds : List AV), m[k]? = some ds → ∃ cs, l[k]? = some cs ∧ cs.length = ds.length ∧ ∀ (j : Nat) (b : AV), ds[j]? = some b → ∃ a, cs[j]? = some a ∧ LeqV (.cell (i + k) j) a b
  | [], [], i, _ => ⟨rfl, fun k b h => by simp at h⟩
  | a :: r, b :: q, i, h => by
    unfold leqH at h
    obtain ⟨h1, h2⟩ := leqH_get h.2
    refine ⟨by simp [h1], fun k x hx => ?_⟩
    cases k with
    | zero =>
      simp at hx; subst hx
      refine ⟨a, rfl, ?_⟩
      rcases h.1 with rfl | h3
      · exact ⟨rfl, fun j y hy => ⟨y, hy, leqV_refl _ _⟩⟩
      · obtain ⟨h4, h5⟩ := leqC_get h3
        exact ⟨h4, fun j y hy => by obtain ⟨z, h6, h7⟩ := h5 j y hy; exact ⟨z, h6, by simpa using h7⟩⟩
    | succ k =>
      obtain ⟨y, h3, h4⟩ := h2 k x (by simpa using hx)
      exact ⟨y, by simpa using h3, by rw [show i + (k + 1) = i + 1 + k by omega]; exact h4⟩
  | [], b :: q, i, h => by unfold leqH at h; exact h.elim
  | a :: r, [], i, h => by unfold leqH at h; exact h.elim
theorem leqH_refl : ∀ (l : List (List AV)) (i : Nat), leqH i l l
  | [], _ => trivial
  | _ :: r, i => ⟨.inl rfl, leqH_refl r (i + 1)⟩

/-! ### Where a function stands is forgotten in part -/
def leqO (s : St) (n : Nat) : List (Nat × AV) → Prop
  | [] => True
  | p :: r => (LeqV (.slot p.1) (s.look p.1) p.2 ∧ p.2.lt n) ∧ leqO s n r
def leqE (s : St) (n : Nat) : List (Nat × AV) → Prop
  | [] => True
  | p :: r => (LeqV (.slot p.1) (s.look p.1) p.2 ∧ p.2.idOf = none ∧ p.2.lt n) ∧ leqE s n r
/-- s' says no more than s; the first m variables are the caller's. -/
def Leq (m : Nat) (s s' : St) : Prop :=
  m ≤ s'.heap.length ∧ s'.heap.length ≤ s.heap.length ∧ leqH 0 (s.heap.take s'.heap.length) s'.heap ∧ ltLL s'.heap.length s'.heap ∧ leqO s s'.heap.length s'.own ∧ leqE s s'.heap.length s'.env ∧ ∀ i ∈ s.wr, i < m → i ∈ s'.wr
theorem leqO_find {s : St} {n : Nat} : ∀ {l : List (Nat × AV)}, leqO s n l → ∀ {t : Nat} {a : AV}, find l t = some a → LeqV (.slot t) (s.look t) a ∧ a.lt n
  | [], _, t, a, h => by simp [find] at h
  | p :: r, hl, t, a, h => by
    unfold leqO at hl
    unfold find at h
    split at h
    · rename_i e; injection h with h; subst h e; exact hl.1
    · exact leqO_find hl.2 h
theorem leqE_find {s : St} {n : Nat} : ∀ {l : List (Nat × AV)}, leqE s n l → ∀ {t : Nat} {a : AV}, find l t = some a → LeqV (.slot t) (s.look t) a ∧ a.idOf = none ∧ a.lt n
  | [], _, t, a, h => by simp [find] at h
  | p :: r, hl, t, a, h => by
    unfold leqE at hl
    unfold find at h
    split at h
    · rename_i e; injection h with h; subst h e; exact hl.1
    · exact leqE_find hl.2 h
section
variable {C : Ctx} {N : Nat}
theorem Leq.rel' {m : Nat} {s s' : St} (h : Leq m s s') (hm : C.G0.boxv.length = m) (hm2 : C.G0.boxes.length = m) {G : Ghost} {cls : Nat → Id} {a : Act} {w : World} (hR : Rel C N G cls s a w) : ∃ G', G' = G.trunc s'.heap.length ∧ Rel C N G' cls s' a w := by
  obtain ⟨h1, h2, h3, h4, h5, h6, h7⟩ := h
  obtain ⟨g1, g2⟩ := leqH_get h3
  have hcell : ∀ (b o : Nat), (G.trunc s'.heap.length).cell b o = G.cell b o := fun _ _ => rfl
  have hl0 : G.boxv.length = s.heap.length := hR.heap.1.symm
  have at_ : ∀ (i : Nat) (ds : List AV) (vs : List Value), s'.heap[i]? = some ds → (G.trunc s'.heap.length).boxv[i]? = some vs → ∃ cs, s.heap[i]? = some cs ∧ G.boxv[i]? = some vs ∧ cs.length = ds.length ∧ ∀ (j : Nat) (b : AV), ds[j]? = some b → ∃ a, cs[j]? = some a ∧ LeqV (.cell i j) a b := fun i ds vs e1 e2 => by
    obtain ⟨cs, e3, e4, e5⟩ := g2 i ds e1
    have hi : i < s'.heap.length := (List.getElem?_eq_some_iff.1 e1).1
    rw [List.getElem?_take, if_pos hi] at e3
    have e2' : (G.boxv.take s'.heap.length)[i]? = some vs := e2
    rw [List.getElem?_take, if_pos hi] at e2'
    exact ⟨cs, e3, e2', e4, fun j b hb => by obtain ⟨x, h8, h9⟩ := e5 j b hb; exact ⟨x, h8, by simpa using h9⟩⟩
  refine ⟨G.trunc s'.heap.length, rfl, hR.ok.trunc _, ⟨by show _ = (G.boxv.take _).length; rw [List.length_take]; omega, fun i ds vs e1 e2 => ?_⟩, fun i ds vs e1 e2 j b hb => ?_, fun t ht => ?_, fun t ht => ?_, hR.size, hR.defers, ⟨hR.ext.w0, hR.ext.bufs, ?_, hR.ext.objs⟩, fun i hi hn => ?_, hR.bufs⟩
  · obtain ⟨cs, e3, e4, e5, e6⟩ := at_ i ds vs e1 e2
    obtain ⟨f1, f2, f3⟩ := hR.heap.2 i cs vs e3 e4
    refine ⟨by omega, f2, fun j b hb => ?_⟩
    obtain ⟨x, h8, h9⟩ := e6 j b hb
    exact (h9.sees (f3 j x h8)).trunc (ltL_get (ltLL_get h4 i ds e1) j b hb)
  · obtain ⟨cs, e3, e4, e5, e6⟩ := at_ i ds vs e1 e2
    obtain ⟨f1, f2, f3⟩ := hR.heap.2 i cs vs e3 e4
    obtain ⟨x, h8, h9⟩ := e6 j b hb
    obtain ⟨f4, f5⟩ := hR.ownh i cs vs e3 e4 j x h8
    refine ⟨(h9.own (f3 j x h8) f4).keep fun b B c hb _ => hb, fun y hy => ?_⟩
    rcases h9.id with h | h | h | ⟨_, h, _⟩
    · rw [h] at hy; cases hy
    · rw [h] at hy; injection hy with hy; exact hy.symm
    · rw [h] at hy; exact f5 y hy
    · cases h
  · obtain ⟨f1, f2⟩ := hR.env t ht
    unfold St.look
    split
    · rename_i x hx
      obtain ⟨f3, f4⟩ := leqO_find h5 hx
      exact ⟨(f3.sees f1).trunc f4, (f3.own f1 f2).keep fun b B c hb _ => hb⟩
    · split
      · rename_i x hx
        obtain ⟨f3, f4, f5⟩ := leqE_find h6 hx
        exact ⟨(f3.sees f1).trunc f5, (f3.own f1 f2).keep fun b B c hb _ => hb⟩
      · exact ⟨.any _, trivial⟩
  · unfold St.look
    rw [ht]
    dsimp only
    split
    · rename_i x hx
      exact (leqE_find h6 hx).2.1
    · rfl
  · obtain ⟨more, hmore⟩ := hR.ext.boxes
    have hlb : C.G0.boxes.length ≤ s'.heap.length := by omega
    exact ⟨more.take (s'.heap.length - C.G0.boxes.length), by show G.boxes.take _ = _; rw [hmore, List.take_append, List.take_of_length_le hlb]⟩
  · by_cases him : i ∈ s.wr
    · exact absurd (h7 i him (by omega)) hn
    · show (G.boxv.take _)[i]? = _
      rw [List.getElem?_take, if_pos (by omega)]
      exact hR.boxes i hi him
theorem Leq.rel {m : Nat} {s s' : St} (h : Leq m s s') (hm : C.G0.boxv.length = m) (hm2 : C.G0.boxes.length = m) {G : Ghost} {cls : Nat → Id} {a : Act} {w : World} (hR : Rel C N G cls s a w) : ∃ G', Rel C N G' cls s' a w :=
  let ⟨G', _, h⟩ := h.rel' hm hm2 hR
  ⟨G', h⟩
end
end Go.Proofs.YtofkddajlgebjaaGreat.Ax
/- A variable that is not written any more: slices of it are slices again. No program is named here. -/
namespace Go.Proofs.YtofkddajlgebjaaGreat.Ax
open Go.RowKit Go By
set_option linter.unusedVariables false

/-- A variable of cells, not of another kind: its first cell tells. -/
def frzOk : List AV → Prop
  | [] => False
  | .any :: _ => False
  | .v (.chan none) :: _ => False
  | _ => True
theorem frzOk.ne {cs : List AV} (h : frzOk cs) : cs ≠ [] := fun e => by subst e; exact h
theorem frzOk.first {cs : List AV} (h : frzOk cs) {G : Ghost} {c : AV} (hc : cs[0]? = some c) (hs : Sees G c (.chan none)) : False := by
  cases cs with
  | nil => exact h
  | cons x r =>
    simp at hc
    subst hc
    cases hs with
    | v => exact h
    | any => exact h
def AV.frz (i : Nat) (cs : List AV) : AV → AV
  | .bsl j off k n => if j = i ∧ off + n * k ≤ cs.length then .sl k (chunk k n ((cs.drop off).take (n * k))) (some false) .no else .bsl j off k n
  | a => a
def frzE (i : Nat) (cs : List AV) : List (Nat × AV) → List (Nat × AV)
  | [] => []
  | (t, a) :: r => (t, a.frz i cs) :: frzE i cs r
/-- Variable i, which holds cs, is not written any more. -/
def St.frz (i : Nat) (cs : List AV) (s : St) : St := { s with env := frzE i cs s.env, heap := s.heap.set i [] }
theorem find_frz (i : Nat) (cs : List AV) (t : Nat) : ∀ l : List (Nat × AV), find (frzE i cs l) t = (find l t).map (AV.frz i cs)
  | [] => rfl
  | (k, a) :: r => by
    unfold frzE find
    split
    · rfl
    · exact find_frz i cs t r
theorem frz_id (i : Nat) (cs : List AV) (a : AV) (h : a.idOf = none) : (a.frz i cs).idOf = none := by
  cases a with
  | bsl j off k n =>
    show (if j = i ∧ off + n * k ≤ cs.length then AV.sl k (chunk k n ((cs.drop off).take (n * k))) (some false) .no else AV.bsl j off k n).idOf = none
    by_cases hc : j = i ∧ off + n * k ≤ cs.length
    · rw [if_pos hc]; rfl
    · rw [if_neg hc]; rfl
  | _ => exact h
def Ghost.frz (G : Ghost) (i b : Nat) (pre vs : List Value) : Ghost := { G with bufs := fun x => if x = b then some ⟨pre ++ vs, (pre ++ vs).length⟩ else G.bufs x, boxv := G.boxv.set i [] }
section
variable {C : Ctx} {N : Nat} {G : Ghost} {cls : Nat → Id} {s : St} {a : Act} {w : World}
theorem Ext.frz {i b : Nat} {pre vs : List Value} (hb : G.bufs b = none) : Ext G (G.frz i b pre vs) := by
  refine ⟨rfl, fun x B hB => ⟨[], ?_⟩, ⟨[], by rw [List.append_nil]; rfl⟩, fun _ _ h => h, fun _ _ _ => ⟨rfl, rfl⟩⟩
  have hne : x ≠ b := fun e => by subst e; rw [hb] at hB; cases hB
  show (if x = b then _ else G.bufs x) = _
  rw [if_neg hne, hB, List.append_nil]
theorem WorldOk.frz (h : WorldOk G w) {i b : Nat} {pre vs : List Value} (hb : G.boxes[i]? = some b) (hkn : G.kinds b = none) (hv : G.boxv[i]? = some vs) (hne : vs ≠ []) (hp : pre.length = G.base i) (hpc : ∀ (j : Nat) (x : Value), pre[j]? = some x → w.cell? ⟨b, j, none⟩ = some x ∧ w.frozen? ⟨b, j, none⟩ = false) : WorldOk (G.frz i b pre vs) w := by
  obtain ⟨b1, b2, b3, b4⟩ := h.box i b vs hb hv
  have all : ∀ (j : Nat) (x : Value), (pre ++ vs)[j]? = some x → w.cell? ⟨b, j, none⟩ = some x ∧ w.frozen? ⟨b, j, none⟩ = false := fun j x hj => by
    by_cases hl : j < pre.length
    · rw [List.getElem?_append_left hl] at hj; exact hpc j x hj
    · rw [List.getElem?_append_right (by omega)] at hj
      have := b4 _ x hj hkn
      rwa [← hp, show pre.length + (j - pre.length) = j by omega] at this
  refine ⟨h.below, fun x B hB => ?_, fun j x us hj hu => ?_, ⟨h.nodup.kill i, h.dom⟩, by show (G.boxv.set i []).length = _; rw [List.length_set]; exact h.len, (h.obj.setBox (us := []) (Keeps.refl w) hb hkn).congr ⟨rfl, rfl, rfl, rfl⟩⟩
  · have hB' : (if x = b then some (⟨pre ++ vs, (pre ++ vs).length⟩ : Buf) else G.bufs x) = some B := hB
    split at hB'
    · rename_i e
      subst e
      injection hB' with hB'
      subst hB'
      refine ⟨b1, b2, Nat.le_refl _, fun j hj => ?_, fun j y hy => (all j y hy).1⟩
      obtain ⟨h1, h2⟩ := all j _ (List.getElem?_eq_getElem hj)
      rw [h1, h2]; exact ⟨rfl, rfl⟩
    · exact h.buf x B hB'
  · have hj' : G.boxes[j]? = some x := hj
    have hu' : (G.boxv.set i [])[j]? = some us := hu
    rw [List.getElem?_set] at hu'
    by_cases e : i = j
    · subst e
      rw [if_pos rfl, if_pos (List.getElem?_eq_some_iff.1 hv).1] at hu'
      injection hu' with hu'
      subst hu'
      rw [hb] at hj'
      injection hj' with hj'
      subst hj'
      exact ⟨b1, b2, fun hne => absurd rfl hne, fun j y hy => by simp at hy⟩
    · rw [if_neg e] at hu'
      obtain ⟨h1, h2, h3, h4⟩ := h.box j x us hj' hu'
      refine ⟨h1, h2, fun hn => ?_, h4⟩
      have hxb : x ≠ b := fun e2 => by
        subst e2
        have := h.nodup.other hb hj' e hv hne
        rw [hu'] at this; injection this with this; exact hn this
      show (if x = b then _ else G.bufs x) = none
      rw [if_neg hxb]; exact h3 hn
theorem Sees.frz (hok : WorldOk G w) {i b : Nat} {cs : List AV} {pre vs : List Value} (hp0 : pre.length = G.base i) (hb : G.boxes[i]? = some b) (hv : G.boxv[i]? = some vs) (hne : vs ≠ []) (hl : vs.length = cs.length) (h1 : ∀ x ∈ vs, x.oneCell' = true) (hs : ∀ (j : Nat) (c : AV), cs[j]? = some c → Sees G c (vs.getD j undef))
    {y : AV} {x : Value} (h : Sees G y x) : Sees (G.frz i b pre vs) (y.frz i cs) x := by
  obtain ⟨b1, b2, b3, b4⟩ := hok.box i b vs hb hv
  have hE : Ext G (G.frz i b pre vs) := Ext.frz (b3 hne)
  cases y with
  | bsl j off k n =>
    show Sees _ (if j = i ∧ off + n * k ≤ cs.length then AV.sl k (chunk k n ((cs.drop off).take (n * k))) (some false) .no else AV.bsl j off k n) x
    by_cases hc : j = i ∧ off + n * k ≤ cs.length
    · rw [if_pos hc]
      obtain ⟨hji, hfit⟩ := hc
      subst hji
      cases h with
      | bsl _ _ _ _ b' cap hb' hcap hm o2 ho2 =>
        replace hb' := hb'.1
        rw [hb] at hb'
        injection hb' with hb'
        subst hb'
        have hlen : ((cs.drop off).take (n * k)).length = n * k := by rw [List.length_take, List.length_drop]; omega
        have at_ : ∀ (p : Nat) (e : List AV), (chunk k n ((cs.drop off).take (n * k)))[p]? = some e → p < n ∧ e.length = k ∧ ∀ (q : Nat) (c : AV), e[q]? = some c → cs[off + p * k + q]? = some c := fun p e he => by
          have hp : p < n := by
            have := (List.getElem?_eq_some_iff.1 he).1
            rwa [chunk_length] at this
          obtain ⟨h2, h3⟩ := chunk_get k n _ p e hlen he
          refine ⟨hp, h2, fun q c hq => ?_⟩
          have h4 := h3 q c hq
          rw [List.getElem?_take] at h4
          split at h4
          · rw [List.getElem?_drop] at h4
            rw [← h4]; congr 1; omega
          · cases h4
        refine .sl k _ (some false) .no (some ⟨b, o2, none⟩) n cap (fun p q => vs.getD (off + p * k + q) undef) (by rw [chunk_length]) ⟨fun h => (by cases h), fun h => (by cases h), fun _ h => (by cases h)⟩ (fun e he => ?_) hcap hm.1 (fun h => by cases h) (fun hp => ⟨b, o2, rfl, fun p q hp hq => ?_⟩) (fun p e he q c hq => ?_) (fun p q hp hq => ?_)
        · obtain ⟨p, hp⟩ := List.getElem?_of_mem he
          exact (at_ p e hp).2.1
        · rw [chunk_length] at hp
          have hlt : off + p * k + q < vs.length := by
            have : (p + 1) * k ≤ n * k := Nat.mul_le_mul_right _ hp
            rw [Nat.succ_mul] at this
            omega
          unfold Ghost.cell
          rw [if_neg (by show ¬ b < G.w0.heap.size; omega)]
          have e2 : o2 = G.base j + off := by omega
          show (if b = b then some (⟨pre ++ vs, (pre ++ vs).length⟩ : Buf) else G.bufs b).bind _ = _
          rw [if_pos rfl]
          show (pre ++ vs)[o2 + p * k + q]? = _
          rw [e2, List.getElem?_append_right (by omega), hp0, show G.base j + off + p * k + q - G.base j = off + p * k + q by omega]
          rw [List.getD_eq_getElem?_getD, List.getElem?_eq_getElem hlt]; rfl
        · exact (hs _ c ((at_ p e he).2.2 q c hq)).ext hE
        · rw [chunk_length] at hp
          have hlt : off + p * k + q < vs.length := by
            have : (p + 1) * k ≤ n * k := Nat.mul_le_mul_right _ hp
            rw [Nat.succ_mul] at this
            omega
          rw [List.getD_eq_getElem?_getD, List.getElem?_eq_getElem hlt]
          exact h1 _ (List.getElem_mem hlt)
    · rw [if_neg hc]; exact h.ext hE
  | _ => exact h.ext hE
theorem St.frz_look (i : Nat) (cs : List AV) (s : St) (t : Nat) : (s.frz i cs).look t = match find s.own t with | some a => a | none => match find s.env t with | some a => a.frz i cs | none => .any := by
  unfold St.look St.frz
  dsimp only
  split
  · rename_i x hx; rw [hx]
  · rename_i hx
    rw [hx, find_frz]
    cases find s.env t <;> rfl
theorem Rel.frz (h : Rel C N G cls s a w) {i : Nat} {cs : List AV} (hi : C.G0.boxv.length ≤ i) (hcs : s.heap[i]? = some cs) (hfz : frzOk cs) : ∃ G', Rel C N G' cls (s.frz i cs) a w := by
  have hil : i < s.heap.length := (List.getElem?_eq_some_iff.1 hcs).1
  have hiv : i < G.boxv.length := by rw [← h.heap.1]; exact hil
  have hib : i < G.boxes.length := by rw [← h.ok.len]; exact hiv
  obtain ⟨vs, hv⟩ : ∃ vs, G.boxv[i]? = some vs := ⟨_, List.getElem?_eq_getElem hiv⟩
  obtain ⟨b, hb⟩ : ∃ b, G.boxes[i]? = some b := ⟨_, List.getElem?_eq_getElem hib⟩
  obtain ⟨hl, hone, hsees⟩ := h.heap.2 i cs vs hcs hv
  have hvne : vs ≠ [] := fun e => hfz.ne (by subst e; exact List.eq_nil_of_length_eq_zero hl.symm)
  have hkn : G.kinds b = none := by
    cases hk : G.kinds b with
    | none => rfl
    | some κ =>
      have h1 := (h.ok.obj.kbox i b vs κ hb hv hk).2
      obtain ⟨c, hc⟩ : ∃ c, cs[0]? = some c := by
        cases cs with
        | nil => exact absurd rfl hfz.ne
        | cons c r => exact ⟨c, rfl⟩
      have h2 := hsees 0 c hc
      rw [List.getD_eq_getElem?_getD, ← List.head?_eq_getElem?, h1] at h2
      exact (hfz.first hc h2).elim
  have hbn := (h.ok.box i b vs hb hv).2.2.1 hvne
  obtain ⟨G', hE, hW, keepB, hbv, hSF⟩ : ∃ G', Ext G G' ∧ WorldOk G' w ∧ (∀ (x : Nat) (B : Buf), G.bufs x = some B → G'.bufs x = some B) ∧ G'.boxv = G.boxv.set i [] ∧ ∀ (y : AV) (x : Value), Sees G y x → Sees G' (y.frz i cs) x := by
    by_cases hbr : G.base i ≤ G.room b
    · obtain ⟨pre, hpre⟩ : ∃ pre : List Value, pre = (List.range (G.base i)).map fun j => (w.cell? ⟨b, j, none⟩).getD undef := ⟨_, rfl⟩
      have hp : pre.length = G.base i := by rw [hpre]; simp
      have hpc : ∀ (j : Nat) (x : Value), pre[j]? = some x → w.cell? ⟨b, j, none⟩ = some x ∧ w.frozen? ⟨b, j, none⟩ = false := fun j x hj => by
        have hjl : j < G.base i := by rw [← hp]; exact (List.getElem?_eq_some_iff.1 hj).1
        obtain ⟨q1, q2⟩ := h.ok.obj.room b j (by omega)
        refine ⟨?_, q2⟩
        rw [hpre, List.getElem?_map, List.getElem?_range hjl] at hj
        injection hj with hj
        rw [← hj]
        show _ = some ((w.cell? ⟨b, j, none⟩).getD undef)
        cases hc : w.cell? ⟨b, j, none⟩ with
        | none => rw [hc] at q1; cases q1
        | some y => rfl
      refine ⟨G.frz i b pre vs, Ext.frz hbn, h.ok.frz hb hkn hv hvne hp hpc, fun x B hB => ?_, rfl, fun y x hs => hs.frz h.ok hp hb hv hvne hl hone hsees⟩
      have hne : x ≠ b := fun e => by subst e; rw [hbn] at hB; cases hB
      show (if x = b then _ else G.bufs x) = _
      rw [if_neg hne, hB]
    · refine ⟨G.setBox i [], Ext.setBox i [], h.ok.blank hb hkn, fun x B hB => hB, rfl, fun y x hs => ?_⟩
      have hs2 := hs.ext (Ext.setBox (G := G) i [])
      cases y with
      | bsl j off k n =>
        show Sees _ (if j = i ∧ off + n * k ≤ cs.length then AV.sl k (chunk k n ((cs.drop off).take (n * k))) (some false) .no else AV.bsl j off k n) x
        by_cases hc : j = i ∧ off + n * k ≤ cs.length
        · exfalso
          obtain ⟨rfl, _⟩ := hc
          cases hs with
          | bsl _ _ _ _ b' cap hb' hcap hm o2 ho2 =>
            have e := hb'.1
            rw [hb] at e; injection e with e; subst e
            omega
        · rw [if_neg hc]; exact hs2
      | _ => exact hs2
  have at_ : ∀ (j : Nat) (ds : List AV) (us : List Value), (s.heap.set i [])[j]? = some ds → (G.boxv.set i [])[j]? = some us → (ds = [] ∧ us = []) ∨ (s.heap[j]? = some ds ∧ G.boxv[j]? = some us) := fun j ds us e1 e2 => by
    rw [List.getElem?_set] at e1 e2
    by_cases e : i = j
    · subst e
      rw [if_pos rfl, if_pos hil] at e1
      rw [if_pos rfl, if_pos hiv] at e2
      injection e1 with e1; injection e2 with e2
      exact .inl ⟨e1.symm, e2.symm⟩
    · rw [if_neg e] at e1 e2
      exact .inr ⟨e1, e2⟩
  refine ⟨G', hW, ⟨by rw [hbv]; show (s.heap.set i []).length = (G.boxv.set i []).length; rw [List.length_set, List.length_set]; exact h.heap.1, fun j ds us e1 e2 => ?_⟩, fun j ds us e1 e2 p c hp => ?_, fun t ht => ?_, fun t ht => ?_, h.size, h.defers.ext hE, h.ext.trans hE, fun j hj hn => ?_, fun x B hB hT => keepB x B (h.bufs x B hB hT)⟩
  · rw [hbv] at e2
    rcases at_ j ds us e1 e2 with ⟨rfl, rfl⟩ | ⟨e3, e4⟩
    · exact ⟨rfl, fun x hx => (by cases hx), fun p c hp => by simp at hp⟩
    · obtain ⟨f1, f2, f3⟩ := h.heap.2 j ds us e3 e4
      exact ⟨f1, f2, fun p c hp => (f3 p c hp).ext hE⟩
  · rw [hbv] at e2
    rcases at_ j ds us e1 e2 with ⟨rfl, rfl⟩ | ⟨e3, e4⟩
    · simp at hp
    · obtain ⟨f1, f2⟩ := h.ownh j ds us e3 e4 p c hp
      exact ⟨f1.keep fun b B c hb _ => keepB b B hb, f2⟩
  · obtain ⟨f1, f2⟩ := h.env t ht
    rw [St.frz_look]
    unfold St.look at f1 f2
    split
    · rename_i x hx
      rw [hx] at f1 f2
      exact ⟨f1.ext hE, f2.keep fun b B c hb _ => keepB b B hb⟩
    · rename_i hx
      rw [hx] at f1 f2
      dsimp only at f1 f2
      have hp := h.plain t hx
      unfold St.look at hp
      rw [hx] at hp
      dsimp only at hp
      split
      · rename_i x hx2
        rw [hx2] at f1 f2 hp
        exact ⟨hSF _ _ f1, .none _ (frz_id i cs x hp)⟩
      · exact ⟨.any _, trivial⟩
  · have hp := h.plain t ht
    unfold St.look at hp
    have ht' : find s.own t = none := ht
    rw [St.frz_look, ht']
    rw [ht'] at hp
    dsimp only at hp ⊢
    split
    · rename_i x hx
      rw [hx] at hp
      exact frz_id i cs x hp
    · rfl
  · rw [hbv]
    show (G.boxv.set i [])[j]? = _
    rw [List.getElem?_set, if_neg (by omega)]
    exact h.boxes j hj hn
end
/-- s2 says no more than s, perhaps with a variable that is not written any more. -/
def LeqF (m : Nat) (s s2 : St) : Prop := Leq m s s2 ∨ ∃ (i : Nat) (cs : List AV), m ≤ i ∧ s.heap[i]? = some cs ∧ frzOk cs ∧ Leq m (s.frz i cs) s2
theorem LeqF.rel {C : Ctx} {N m : Nat} {s s' : St} (h : LeqF m s s') (hm : C.G0.boxv.length = m) (hm2 : C.G0.boxes.length = m) {G : Ghost} {cls : Nat → Id} {a : Act} {w : World} (hR : Rel C N G cls s a w) : ∃ G', Rel C N G' cls s' a w := by
  rcases h with h | ⟨i, cs, h1, h2, h3, h4⟩
  · exact h.rel hm hm2 hR
  · obtain ⟨G2, hR2⟩ := hR.frz (by omega) h2 h3
    exact h4.rel hm hm2 hR2
end Go.Proofs.YtofkddajlgebjaaGreat.Ax
/- A loop over a function, over values without memory: what it stands at, where its rounds begin and end. No program is named here. -/
namespace Go.Proofs.YtofkddajlgebjaaGreat.Ax
open Go.RowKit Go By

theorem ltL_of {n : Nat} : ∀ {l : List AV}, (∀ (j : Nat) (c : AV), l[j]? = some c → c.lt n) → ltL n l
  | [], _ => trivial
  | _ :: _, h => ⟨h 0 _ rfl, ltL_of fun j c hj => h (j + 1) c (by simpa using hj)⟩
theorem ltLL_of' {n : Nat} : ∀ {l : List (List AV)}, (∀ (j : Nat) (e : List AV), l[j]? = some e → ltL n e) → ltLL n l
  | [], _ => trivial
  | _ :: _, h => ⟨h 0 _ rfl, ltLL_of' fun j c hj => h (j + 1) c (by simpa using hj)⟩
theorem Sees.lt {G : Ghost} {a : AV} {x : Value} (h : Sees G a x) : a.lt G.boxes.length := by
  induction h with
  | v x => trivial
  | any x => trivial
  | box i off b hb => exact (List.getElem?_eq_some_iff.1 hb.1).1
  | ro cs b o u hc hs h1 ih => exact ltL_of ih
  | sl k es nul room a len cap u hlen hn hk hcap hm hr hc hs h1 ih => exact ltLL_of' fun i e he => ltL_of (ih i e he)
  | fn f first cap us vs h1 h2 hs1 hs2 ih1 ih2 => exact ⟨ltL_of ih1, ltL_of ih2⟩
  | agg cs us hl0 hs h1 ih => exact ltL_of ih
  | tup cs us hl0 hs ih => exact ltL_of ih
  | bsl i off k n b cap hb hcap hm => exact (List.getElem?_eq_some_iff.1 hb.1).1
  | yld i b r c slots hb hk hl hs ih => exact ⟨(List.getElem?_eq_some_iff.1 hb).1, ltL_of ih⟩
  | mp i b n one hb hk => exact (List.getElem?_eq_some_iff.1 hb).1
  | ifc t a x h ih => exact ih
  | itr i b n one im mb hb hk hm =>
    refine ⟨(List.getElem?_eq_some_iff.1 hb).1, ?_⟩
    cases im with
    | none => trivial
    | some j => obtain ⟨b', _, h2, _⟩ := hm; exact (List.getElem?_eq_some_iff.1 h2).1

/-- What a loop stands at: in a round or not; left or not. -/
def lstate (b d : Bool) : List AV := [.v (.chan none), .v (.bool b), .v (.bool d)]
def lvals (b d : Bool) : List Value := [.chan none, .bool b, .bool d]
theorem lstate_vals {G : Ghost} {h : List (List AV)} (hS : SeesH G h) {i : Nat} {b d : Bool} (hi : h[i]? = some (lstate b d)) : G.boxv[i]? = some (lvals b d) := by
  have hlt : i < G.boxv.length := by rw [← hS.1]; exact (List.getElem?_eq_some_iff.1 hi).1
  obtain ⟨h1, _, h2⟩ := hS.2 i _ _ hi (List.getElem?_eq_getElem hlt)
  rw [List.getElem?_eq_getElem hlt]
  have e0 := (h2 0 _ rfl).inv_v
  have e1 := (h2 1 _ rfl).inv_v
  have e2 := (h2 2 _ rfl).inv_v
  generalize G.boxv[i] = vs at h1 e0 e1 e2 ⊢
  match vs, h1 with
  | [x, y, z], _ => simp at e0 e1 e2; subst e0 e1 e2; rfl

/-- A variable of another kind turns. -/
theorem WorldOk.turn {G : Ghost} {w : World} (h : WorldOk G w) {i b : Nat} {r : Loop} {c : Code} (hb : G.boxes[i]? = some b) (hk : G.kinds b = some (.loop r c)) {us : List Value} (hv : G.boxv[i]? = some us) (x y : Bool) :
    WorldOk (G.setBox i (lvals x y)) (w.putObj b ((Kind.loop r c).obj (lvals x y))) := h.turnK hb hk hv _ rfl
/-- .. and is put away. -/
theorem WorldOk.putAway {G : Ghost} {w : World} (h : WorldOk G w) {i b : Nat} {r : Loop} {c : Code} (hb : G.boxes[i]? = some b) (hk : G.kinds b = some (.loop r c)) {us : List Value} (hv : G.boxv[i]? = some us) (o' : Obj) :
    WorldOk (G.trunc i) (w.putObj b o') := by
  obtain ⟨b1, b2, b3, _⟩ := h.box i b us hb hv
  obtain ⟨q1, q2⟩ := h.obj.kbox i b us _ hb hv hk
  have hne : us ≠ [] := fun e => by subst e; cases q2
  have hbf := b3 hne
  have oth : ∀ b', b' ≠ b → ∀ j, (w.putObj b o').cell? ⟨b', j, none⟩ = w.cell? ⟨b', j, none⟩ ∧ (w.putObj b o').frozen? ⟨b', j, none⟩ = w.frozen? ⟨b', j, none⟩ := fun b' hb' j => by
    have := World.putObj_heap_other (w := w) (o := o') hb'
    exact ⟨World.cell?_of_block (a := ⟨b', j, none⟩) this, World.frozen?_of_block (a := ⟨b', j, none⟩) this⟩
  have old : ∀ {α : Type} (l : List α) (i' : Nat) (z : α), (l.take i)[i']? = some z → l[i']? = some z ∧ i' < i := fun l i' z e => by
    rw [List.getElem?_take] at e
    split at e
    · rename_i hl; exact ⟨e, hl⟩
    · cases e
  have ht := h.trunc i
  refine ⟨h.below.trans ⟨rfl, rfl, rfl, by simp, fun k hk => World.putObj_heap_other (by have := h.below.size; omega)⟩, fun b' B hB => ?_, fun i' b' us' h1 h2 => ?_, ht.nodup2, ht.len, fun b' o ho => ?_, fun i' b' us' κ h1 h2 h3 => ?_, fun b' hb' => ?_, fun b' j hj => ?_⟩
  · obtain ⟨p1, p2, p3, p4, p5⟩ := h.buf b' B hB
    have hbb : b' ≠ b := fun e => by subst e; rw [show G.bufs b' = some B from hB] at hbf; cases hbf
    exact ⟨p1, by simpa using p2, p3, fun j hj => by rw [(oth b' hbb _).1, (oth b' hbb _).2]; exact p4 j hj, fun j z hz => by rw [(oth b' hbb j).1]; exact p5 j z hz⟩
  · obtain ⟨h1, hlt⟩ := old G.boxes i' b' h1
    obtain ⟨h2, _⟩ := old G.boxv i' us' h2
    obtain ⟨p1, p2, p3, p4⟩ := h.box i' b' us' h1 h2
    by_cases hn' : us' = []
    · subst hn'
      exact ⟨p1, by simpa using p2, p3, fun j z hz => by simp at hz⟩
    have hbb : b' ≠ b := fun e => by
      subst e
      have := h.nodup.other hb h1 (by omega) hv hne
      rw [h2] at this; injection this with this; exact hn' this
    exact ⟨p1, by simpa using p2, p3, fun j z hz hkn => by rw [(oth b' hbb _).1, (oth b' hbb _).2]; exact p4 j z hz hkn⟩
  · obtain ⟨p1, p2, p3⟩ := h.obj.obj b' o ho
    have hbb : b' ≠ b := fun e => by subst e; rw [q1] at p1; injection p1 with p1; exact p3 _ _ p1.symm
    exact ⟨(World.putObj_heap_other hbb).trans p1, p2, p3⟩
  · obtain ⟨h1, hlt⟩ := old G.boxes i' b' h1
    obtain ⟨h2, _⟩ := old G.boxv i' us' h2
    obtain ⟨p1, p2⟩ := h.obj.kbox i' b' us' κ h1 h2 h3
    have hbb : b' ≠ b := fun e => by
      subst e
      have := h.nodup.other hb h1 (by omega) hv hne
      rw [h2] at this; injection this with this; subst this; cases p2
    exact ⟨(World.putObj_heap_other hbb).trans p1, p2⟩
  · simpa using h.obj.kind b' hb'
  · have p := h.obj.room b' j hj
    have hbb : b' ≠ b := fun e => by subst e; exact no_cell q1 (Kind.noCells _ us) p.1
    rw [(oth b' hbb j).1, (oth b' hbb j).2]; exact p

/-- A loop is entered. -/
def Ghost.enterLoop (G : Ghost) (D : Nat) (r : Loop) (c : Code) : Ghost := { G with boxes := G.boxes ++ [D + 1], boxv := G.boxv ++ [lvals false false], objs := fun b => if b = D then some (.deferred (some [])) else G.objs b, kr := fun b => if b = D + 1 then (some (.loop r c), 0) else G.kr b }
theorem WorldOk.enterLoop {G : Ghost} {w : World} (h : WorldOk G w) (r : Loop) (c : Code) (hr : r.state = .ready) (hp : r.pending = none) :
    WorldOk (G.enterLoop w.heap.size r c) ((w.alloc (.deferred (some []))).alloc (.loop r)) ∧ Ext G (G.enterLoop w.heap.size r c) := by
  have old : ∀ b, b < w.heap.size → ((w.alloc (.deferred (some []))).alloc (.loop r)).heap[b]? = w.heap[b]? := fun b hb => (heap_alloc_old _ _ (by simp; omega)).trans (heap_alloc_old w _ hb)
  have oldc : ∀ b, b < w.heap.size → ∀ j, ((w.alloc (.deferred (some []))).alloc (.loop r)).cell? ⟨b, j, none⟩ = w.cell? ⟨b, j, none⟩ ∧ ((w.alloc (.deferred (some []))).alloc (.loop r)).frozen? ⟨b, j, none⟩ = w.frozen? ⟨b, j, none⟩ := fun b hb j =>
    ⟨World.cell?_of_block (a := ⟨b, j, none⟩) (old b hb), World.frozen?_of_block (a := ⟨b, j, none⟩) (old b hb)⟩
  have hD : ((w.alloc (.deferred (some []))).alloc (.loop r)).heap[w.heap.size]? = some (.deferred (some [])) := (heap_alloc_old _ _ (by simp)).trans (heap_alloc_new w _)
  have hL : ((w.alloc (.deferred (some []))).alloc (.loop r)).heap[w.heap.size + 1]? = some (.loop r) := by
    have := heap_alloc_new (w.alloc (.deferred (some []))) (.loop r)
    rwa [World.size_alloc] at this
  have hsz : ((w.alloc (.deferred (some []))).alloc (.loop r)).heap.size = w.heap.size + 2 := by simp
  have hlow := h.below.size
  have hnb : ∀ b B, G.bufs b = some B → b < w.heap.size := fun b B hB => (h.buf b B hB).2.1
  have at_ : ∀ i b us, (G.boxes ++ [w.heap.size + 1])[i]? = some b → (G.boxv ++ [lvals false false])[i]? = some us → (G.boxes[i]? = some b ∧ G.boxv[i]? = some us ∧ b < w.heap.size) ∨ (b = w.heap.size + 1 ∧ us = lvals false false) := fun i b us h1 h2 => by
    by_cases hi : i < G.boxes.length
    · left
      rw [List.getElem?_append_left hi] at h1
      rw [List.getElem?_append_left (by rw [h.len]; exact hi)] at h2
      exact ⟨h1, h2, (h.boxlt h1).1⟩
    · right
      have hi2 : i = G.boxes.length := by
        have := (List.getElem?_eq_some_iff.1 h1).1
        simp at this; omega
      subst hi2
      simp at h1
      rw [← h.len] at h2
      simp at h2
      exact ⟨h1.symm, h2.symm⟩
  have krold : ∀ b, b < w.heap.size → (G.enterLoop w.heap.size r c).kr b = G.kr b := fun b hb => by
    show (if b = w.heap.size + 1 then _ else G.kr b) = _
    rw [if_neg (by omega)]
  have kold : ∀ b, b < w.heap.size → (G.enterLoop w.heap.size r c).kinds b = G.kinds b := fun b hb => congrArg Prod.fst (krold b hb)
  refine ⟨⟨(h.below.alloc hlow _).alloc (by simp; omega) _, fun b B hB => ?_, fun i b us h1 h2 => ?_, ⟨?_, h.dom⟩, by simp [Ghost.enterLoop, h.len], fun b o ho => ?_, fun i b us κ h1 h2 h3 => ?_, fun b hb => ?_, fun b j hj => ?_⟩, rfl, fun b B hB => ⟨[], by show G.bufs b = _; rw [hB, List.append_nil]⟩, ⟨_, rfl⟩, fun b o ho => ?_, fun i b hb => ⟨krold b (h.boxlt hb).1, rfl⟩⟩
  · obtain ⟨p1, p2, p3, p4, p5⟩ := h.buf b B hB
    exact ⟨p1, by rw [hsz]; omega, p3, fun j hj => by rw [(oldc b p2 j).1, (oldc b p2 j).2]; exact p4 j hj, fun j x hx => by rw [(oldc b p2 j).1]; exact p5 j x hx⟩
  · rcases at_ i b us h1 h2 with ⟨h3, h4, h5⟩ | ⟨rfl, rfl⟩
    · obtain ⟨p1, p2, p3, p4⟩ := h.box i b us h3 h4
      exact ⟨p1, by rw [hsz]; omega, p3, fun j x hx hkn => by rw [(oldc b p2 _).1, (oldc b p2 _).2]; exact p4 j x hx ((kold b h5).symm.trans hkn)⟩
    · refine ⟨by show G.w0.heap.size ≤ _; omega, by rw [hsz]; omega, fun _ => ?_, fun j x hx hkn => ?_⟩
      · cases hB : G.bufs (w.heap.size + 1) with
        | none => exact hB
        | some B => have := hnb _ _ hB; omega
      · have hkn' : (if w.heap.size + 1 = w.heap.size + 1 then (some (Kind.loop r c), 0) else G.kr (w.heap.size + 1)).1 = none := hkn
        rw [if_pos rfl] at hkn'; cases hkn'
  · exact h.nodup.snoc h.len (fun i hi => by have := (h.boxlt hi).1; omega) _
  · have ho' : (if b = w.heap.size then some (.deferred (some [])) else G.objs b) = some o := ho
    split at ho'
    · rename_i e; subst e
      injection ho' with ho'; subst ho'
      exact ⟨hD, rfl, fun κ vs => κ.notDeferred vs _⟩
    · obtain ⟨p1, p2, p3⟩ := h.obj.obj b o ho'
      exact ⟨(old b (Array.getElem?_eq_some_iff.1 p1).1).trans p1, p2, p3⟩
  · rcases at_ i b us h1 h2 with ⟨h4, h5, h6⟩ | ⟨rfl, rfl⟩
    · obtain ⟨p1, p2⟩ := h.obj.kbox i b us κ h4 h5 ((kold b h6).symm.trans h3)
      exact ⟨(old b h6).trans p1, p2⟩
    · have h3' : (if w.heap.size + 1 = w.heap.size + 1 then (some (Kind.loop r c), 0) else G.kr (w.heap.size + 1)).1 = some κ := h3
      rw [if_pos rfl] at h3'
      injection h3' with h3'; subst h3'
      refine ⟨hL.trans ?_, rfl⟩
      show some (Obj.loop r) = some (.loop { r with state := .ready, pending := none })
      rw [← hr, ← hp]
  · rw [hsz]
    have hb' : (if b = w.heap.size + 1 then (some (Kind.loop r c), 0) else G.kr b).1 ≠ none := hb
    split at hb'
    · omega
    · have := h.obj.kind b hb'; omega
  · have hj' : j < (if b = w.heap.size + 1 then (some (Kind.loop r c), 0) else G.kr b).2 := hj
    split at hj'
    · exact absurd hj' (Nat.not_lt_zero _)
    · have p := h.obj.room b j hj'
      have := cell_lt p.1
      rw [(oldc b this j).1, (oldc b this j).2]; exact p
  · show (if b = w.heap.size then _ else G.objs b) = some o
    rw [if_neg (fun e => by subst e; have := (Array.getElem?_eq_some_iff.1 (h.obj.obj _ o ho).1).1; omega)]
    exact ho

section
variable {C : Ctx} {N : Nat} {G : Ghost} {cls : Nat → Id} {s : St} {a : Act} {w : World}
theorem oneCell_lvals (x y : Bool) : ∀ v ∈ lvals x y, v.oneCell' = true := by
  intro v hv
  simp [lvals] at hv
  rcases hv with rfl | rfl | rfl <;> rfl
theorem sees_lstate (x y : Bool) : SeesL G (lstate x y) (lvals x y) := SeesL.cons (.v _) (SeesL.cons (.v _) (SeesL.cons (.v _) SeesL.nil))
theorem lstate_id (x y : Bool) : ∀ c ∈ lstate x y, c.idOf = none := by
  intro c hc
  simp [lstate] at hc
  rcases hc with rfl | rfl | rfl <;> rfl
def St.turn (s : St) (i : Nat) (x y : Bool) : St := { s with heap := s.heap.set i (lstate x y), wr := i :: s.wr }
theorem Rel.turn (h : Rel C N G cls s a w) {i b : Nat} {r : Loop} {c : Code} (hb : G.boxes[i]? = some b) (hk : G.kinds b = some (.loop r c)) {x y : Bool} (hc : s.heap[i]? = some (lstate x y)) (x' y' : Bool) :
    Rel C N (G.setBox i (lvals x' y')) cls (s.turn i x' y') a (w.putObj b ((Kind.loop r c).obj (lvals x' y'))) := by
  have hus := lstate_vals h.heap hc
  have hE := Ext.setBox (G := G) i (lvals x' y')
  have hil : i < s.heap.length := (List.getElem?_eq_some_iff.1 hc).1
  have hil2 : i < G.boxv.length := (List.getElem?_eq_some_iff.1 hus).1
  have at_ : ∀ (i' : Nat) (ds : List AV) (vs : List Value), (s.heap.set i (lstate x' y'))[i']? = some ds → (G.boxv.set i (lvals x' y'))[i']? = some vs → (i' = i ∧ ds = lstate x' y' ∧ vs = lvals x' y') ∨ (i' ≠ i ∧ s.heap[i']? = some ds ∧ G.boxv[i']? = some vs) := fun i' ds vs e1 e2 => by
    rw [List.getElem?_set] at e1 e2
    by_cases hi : i = i'
    · subst hi
      rw [if_pos rfl, if_pos hil] at e1
      rw [if_pos rfl, if_pos hil2] at e2
      injection e1 with e1; injection e2 with e2
      exact .inl ⟨rfl, e1.symm, e2.symm⟩
    · rw [if_neg hi] at e1 e2
      exact .inr ⟨fun hh => hi hh.symm, e1, e2⟩
  refine h.next hE (h.ok.turn hb hk hus x' y') (fun b B hB => hB) ⟨by simp [Ghost.setBox, h.heap.1], fun i' ds vs e1 e2 => ?_⟩ (fun i' ds vs e1 e2 j c hj => ?_) (fun i' hi' hn => ?_)
  · rcases at_ i' ds vs e1 e2 with ⟨rfl, rfl, rfl⟩ | ⟨_, h3, h4⟩
    · exact ⟨rfl, oneCell_lvals _ _, (sees_lstate x' y').2⟩
    · obtain ⟨h5, h6, h7⟩ := h.heap.2 i' ds vs h3 h4
      exact ⟨h5, h6, fun j c hj => (h7 j c hj).ext hE⟩
  · rcases at_ i' ds vs e1 e2 with ⟨rfl, rfl, rfl⟩ | ⟨_, h3, h4⟩
    · have := lstate_id x' y' c (List.mem_of_getElem? hj)
      exact ⟨.none _ this, fun x hx => by rw [this] at hx; cases hx⟩
    · obtain ⟨h5, h6⟩ := h.ownh i' ds vs h3 h4 j c hj
      exact ⟨h5.keep fun b B c hb _ => hb, h6⟩
  · have hne : i ≠ i' := fun e => hn (by subst e; exact List.mem_cons_self ..)
    show (G.boxv.set i _)[i']? = _
    rw [List.getElem?_set, if_neg hne]
    exact h.boxes i' hi' fun hh => hn (List.mem_cons_of_mem _ hh)
theorem Rel.leaveLoop (h : Rel C N G cls s a w) {i b : Nat} {r : Loop} {c : Code} (hb : G.boxes[i]? = some b) (hk : G.kinds b = some (.loop r c)) {x y : Bool} (hc : s.heap[i]? = some (lstate x y)) (hm : C.G0.boxv.length ≤ i) (hm2 : C.G0.boxes.length ≤ i)
    (hlook : ∀ t, t < N → (s.look t).lt i) (hlt : ltLL i (s.heap.take i)) (o : Obj) : Rel C N (G.trunc i) cls { s with heap := s.heap.take i } a (w.putObj b o) := by
  have hus := lstate_vals h.heap hc
  have old : ∀ {α : Type} (l : List α) (i' : Nat) (z : α), (l.take i)[i']? = some z → l[i']? = some z ∧ i' < i := fun l i' z e => by
    rw [List.getElem?_take] at e
    split at e
    · rename_i hl; exact ⟨e, hl⟩
    · cases e
  refine ⟨h.ok.putAway hb hk hus o, ⟨?_, fun i' cs vs e1 e2 => ?_⟩, fun i' cs vs e1 e2 j c hj => ?_, fun t ht => ?_, h.plain, h.size, h.defers, ⟨h.ext.w0, h.ext.bufs, ?_, h.ext.objs⟩, fun i' hi' hn => ?_, h.bufs⟩
  · show (s.heap.take i).length = (G.boxv.take i).length
    simp [h.heap.1]
  · obtain ⟨e3, hi⟩ := old s.heap i' cs e1
    obtain ⟨e4, _⟩ := old G.boxv i' vs e2
    obtain ⟨h5, h6, h7⟩ := h.heap.2 i' cs vs e3 e4
    exact ⟨h5, h6, fun j c hj => (h7 j c hj).trunc (ltL_get (ltLL_get hlt i' cs e1) j c hj)⟩
  · obtain ⟨e3, hi⟩ := old s.heap i' cs e1
    obtain ⟨e4, _⟩ := old G.boxv i' vs e2
    obtain ⟨h5, h6⟩ := h.ownh i' cs vs e3 e4 j c hj
    exact ⟨h5.keep fun b B c hb _ => hb, h6⟩
  · obtain ⟨h5, h6⟩ := h.env t ht
    exact ⟨h5.trunc (hlook t ht), h6.keep fun b B c hb _ => hb⟩
  · obtain ⟨more, hmore⟩ := h.ext.boxes
    exact ⟨more.take (i - C.G0.boxes.length), by show G.boxes.take _ = _; rw [hmore, List.take_append, List.take_of_length_le hm2]⟩
  · show (G.boxv.take i)[i']? = _
    rw [List.getElem?_take, if_pos (by omega)]
    exact h.boxes i' hi' hn
theorem Rel.enterLoop (h : Rel C N G cls s a w) (r : Loop) (c : Code) (hr : r.state = .ready) (hp : r.pending = none) :
    Rel C N (G.enterLoop w.heap.size r c) cls { s with heap := s.heap ++ [lstate false false] } { a with defers := markOf w.heap.size :: a.defers } ((w.alloc (.deferred (some []))).alloc (.loop r)) := by
  obtain ⟨hW, hE⟩ := h.ok.enterLoop r c hr hp
  have at_ : ∀ (i : Nat) (ds : List AV) (us : List Value), (s.heap ++ [lstate false false])[i]? = some ds → (G.boxv ++ [lvals false false])[i]? = some us → (s.heap[i]? = some ds ∧ G.boxv[i]? = some us) ∨ (ds = lstate false false ∧ us = lvals false false) := fun i ds us h1 h2 => by
    by_cases hl : i < s.heap.length
    · left
      rw [List.getElem?_append_left hl] at h1
      rw [List.getElem?_append_left (by rw [← h.heap.1]; exact hl)] at h2
      exact ⟨h1, h2⟩
    · right
      have hl2 : i = s.heap.length := by
        have := (List.getElem?_eq_some_iff.1 h1).1
        simp at this; omega
      subst hl2
      simp at h1
      rw [h.heap.1] at h2
      simp at h2
      exact ⟨h1.symm, h2.symm⟩
  have h1 := h.next (hp := s.heap ++ [lstate false false]) (wr := s.wr) hE hW (fun b B hb => hb) ⟨by simp [Ghost.enterLoop, h.heap.1], fun i ds us h8 h9 => ?_⟩ (fun i ds us h8 h9 j c hj => ?_) (fun i hi2 hw => ?_)
  · obtain ⟨Ds, d1, d2, d3⟩ := h1.defers
    refine ⟨h1.ok, h1.heap, h1.ownh, h1.env, h1.plain, h1.size, ⟨w.heap.size :: Ds, by show _ = _ :: _; rw [← d1], List.nodup_cons.2 ⟨fun hm => ?_, d2⟩, fun D hD => ?_⟩, h1.ext, h1.boxes, h1.bufs⟩
    · obtain ⟨Ds', e1, e2, e3⟩ := h.defers
      have : Ds' = Ds := markOf_inj (e1.symm.trans d1)
      subst this
      have := (Array.getElem?_eq_some_iff.1 (h.ok.obj.obj _ _ (e3 _ hm).1).1).1
      omega
    · rcases List.mem_cons.1 hD with rfl | hD
      · refine ⟨by show (if _ then _ else _) = _; rw [if_pos rfl], ?_, h.ok.below.size⟩
        cases ho : C.G0.objs w.heap.size with
        | none => rfl
        | some o => have := (Array.getElem?_eq_some_iff.1 (h.ok.obj.obj _ _ (h.ext.objs.1 _ o ho)).1).1; omega
      · exact d3 D hD
  · rcases at_ i ds us h8 h9 with ⟨h3, h4⟩ | ⟨rfl, rfl⟩
    · obtain ⟨h5, h7, h6⟩ := h.heap.2 i ds us h3 h4
      exact ⟨h5, h7, fun j c hj => (h6 j c hj).ext hE⟩
    · exact ⟨rfl, oneCell_lvals _ _, (sees_lstate _ _).2⟩
  · rcases at_ i ds us h8 h9 with ⟨h3, h4⟩ | ⟨rfl, rfl⟩
    · obtain ⟨h5, h6⟩ := h.ownh i ds us h3 h4 j c hj
      exact ⟨h5.keep fun b B c hb _ => hb, h6⟩
    · have := lstate_id false false c (List.mem_of_getElem? hj)
      exact ⟨.none _ this, fun x hx => by rw [this] at hx; cases hx⟩
  · obtain ⟨m, hm⟩ := h.ext.boxes
    have hlt : i < G.boxv.length := by
      have h1 := h.ok.len
      rw [hm] at h1
      simp at h1
      by_cases hh : i < G.boxv.length
      · exact hh
      · have h2 := h.boxes i hi2 hw
        rw [List.getElem?_eq_none (by omega), List.getElem?_eq_getElem hi2] at h2
        cases h2
    show (G.boxv ++ [_])[i]? = _
    rw [List.getElem?_append_left hlt]
    exact h.boxes i hi2 hw
end
end Go.Proofs.YtofkddajlgebjaaGreat.Ax
/- The rounds of a loop over a function, over values without memory: where they begin, what they leave. No program is named here. -/
namespace Go.Proofs.YtofkddajlgebjaaGreat.Ax
open Go.RowKit Go By

/-- What a round finds in the slots: what the loop found, and what is handed over; nothing owned. -/
def unownE : List (Nat × AV) → List (Nat × AV)
  | [] => []
  | (k, a) :: r => (k, a.unown) :: unownE r
def St.round (s : St) (ps : List Nat) (args : List AV) (h : List (List AV)) : St := ⟨ps.zip args ++ (unownE s.own ++ s.env), [], h, []⟩
theorem find_append (t : Nat) : ∀ l m : List (Nat × AV), find (l ++ m) t = (match find l t with | some a => some a | none => find m t)
  | [], m => rfl
  | (k, a) :: r, m => by
    show (if k = t then some a else find (r ++ m) t) = (match (if k = t then some a else find r t) with | some a => some a | none => find m t)
    split
    · rfl
    · exact find_append t r m
theorem find_unownE (t : Nat) : ∀ l : List (Nat × AV), find (unownE l) t = (find l t).map AV.unown
  | [] => rfl
  | (k, a) :: r => by
    unfold unownE find
    split
    · rfl
    · exact find_unownE t r
theorem look_round {s : St} (hp : ∀ t, find s.own t = none → (s.look t).idOf = none) (ps : List Nat) (args : List AV) (h : List (List AV)) (t : Nat) : (s.round ps args h).look t = (match find (ps.zip args) t with | some x => x | none => (s.look t).unown) := by
  have e : (s.round ps args h).look t = (match find (ps.zip args ++ (unownE s.own ++ s.env)) t with | some a => a | none => .any) := rfl
  rw [e, find_append]
  cases find (ps.zip args) t with
  | some x => rfl
  | none =>
    dsimp only
    rw [find_append, find_unownE]
    have hp := hp t
    unfold St.look at hp ⊢
    cases ho : find s.own t with
    | some a => rfl
    | none =>
      rw [ho] at hp
      have hp := hp rfl
      dsimp only [Option.map] at hp ⊢
      cases he : find s.env t with
      | some a => rw [he] at hp; exact (AV.unown_of hp).symm
      | none => rfl
def slotsOf (N : Nat) (s : St) : List AV := (List.range N).map fun t => (s.look t).unown
theorem slotsOf_get (N : Nat) (s : St) (t : Nat) (ht : t < N) : (slotsOf N s)[t]? = some (s.look t).unown := by
  unfold slotsOf
  rw [List.getElem?_map, List.getElem?_range ht]; rfl
def nodupB : List Nat → Bool
  | [] => true
  | a :: r => !r.contains a && nodupB r
theorem find_zip_none (t : Nat) : ∀ (ps : List Nat) (args : List AV), t ∉ ps → find (ps.zip args) t = none
  | [], _, _ => rfl
  | p :: ps, [], _ => rfl
  | p :: ps, x :: args, h => by
    rw [List.zip_cons_cons]
    unfold find
    rw [if_neg (fun e => h (by subst e; exact List.mem_cons_self ..))]
    exact find_zip_none t ps args fun hh => h (List.mem_cons_of_mem _ hh)
theorem fold_sees {G : Ghost} : ∀ (ps : List Nat) (args : List AV) (vs : List Value) (tmps : Array Value) (look : Nat → AV), nodupB ps = true → SeesL G args vs → ps.length = args.length → (∀ p ∈ ps, p < tmps.size) → (∀ t, t < tmps.size → Sees G (look t) (tmps.getD t undef)) →
    ((ps.zip vs).foldl (fun (tmps : Array Value) (p : Nat × Value) => tmps.setIfInBounds p.1 p.2) tmps).size = tmps.size ∧ ∀ t, t < tmps.size → Sees G (match find (ps.zip args) t with | some x => x | none => look t) (((ps.zip vs).foldl (fun (tmps : Array Value) (p : Nat × Value) => tmps.setIfInBounds p.1 p.2) tmps).getD t undef)
  | [], _, _, tmps, look, _, _, _, _, hl => by
    exact ⟨rfl, fun t ht => hl t ht⟩
  | p :: ps, [], _, _, _, _, _, h, _, _ => by simp at h
  | p :: ps, x :: args, [], _, _, _, hs, _, _, _ => by have := hs.1; simp at this
  | p :: ps, x :: args, v :: vs, tmps, look, hn, hs, hl, hp, hlook => by
    unfold nodupB at hn
    rw [Bool.and_eq_true] at hn
    obtain ⟨h1, h2⟩ := hs.tail
    have hps : p < tmps.size := hp p (List.mem_cons_self ..)
    obtain ⟨e1, e2⟩ := fold_sees ps args vs (tmps.setIfInBounds p v) (fun t => if p = t then x else look t) hn.2 h2 (by simpa using hl) (fun q hq => by simpa using hp q (List.mem_cons_of_mem _ hq)) (fun t ht => by
      have ht : t < tmps.size := by simpa using ht
      by_cases hpt : p = t
      · subst hpt
        rw [if_pos rfl]
        have : (tmps.setIfInBounds p v).getD p undef = v := by rw [Array.getD_eq_getD_getElem?, Array.getElem?_setIfInBounds_self_of_lt hps]; rfl
        rw [this]; exact h1
      · rw [if_neg hpt]
        have : (tmps.setIfInBounds p v).getD t undef = tmps.getD t undef := by rw [Array.getD_eq_getD_getElem?, Array.getElem?_setIfInBounds_ne hpt, ← Array.getD_eq_getD_getElem?]
        rw [this]; exact hlook t ht)
    rw [List.zip_cons_cons, List.zip_cons_cons, List.foldl_cons]
    refine ⟨by rw [e1]; simp, fun t ht => ?_⟩
    have := e2 t (by simpa using ht)
    unfold find
    by_cases hpt : p = t
    · subst hpt
      have hnp : p ∉ ps := by simpa using hn.1
      rw [find_zip_none p ps args hnp] at this
      rw [if_pos rfl] at this ⊢
      exact this
    · rw [if_neg hpt]
      rw [if_neg hpt] at this
      exact this

section
variable {P : Program} {N : Nat} {s : St}
/-- A round begins. -/
theorem Rel.roundStart {G : Ghost} {w : World} {vs : List Value} {cls : Nat → Id} {h : List (List AV)} {args : List AV} {ps : List Nat} {r : Loop} (hp : ∀ t, find s.own t = none → (s.look t).idOf = none) (hN : r.tmps.size = N) (hs : ∀ j x, (slotsOf N s)[j]? = some x → Sees G x (r.tmps.toList.getD j undef))
    (hW : WorldOk G w) (hS : SeesH G h) (hvs : SeesL G args vs) (hid : ∀ y ∈ args, y.idOf = none) (hoh : OwnH G (fun b c => cls b = c) h) (hnd : nodupB ps = true) (hlen : ps.length = args.length) (hlt : ∀ p ∈ ps, p < N) :
    Rel ⟨G, Touched G args vs h⟩ N G cls (s.round ps args h) { tmps := (ps.zip vs).foldl (fun (tmps : Array Value) (p : Nat × Value) => tmps.setIfInBounds p.1 p.2) r.tmps, defers := [] } w := by
  obtain ⟨e1, e2⟩ := fold_sees (G := G) ps args vs r.tmps (fun t => (s.look t).unown) hnd hvs hlen (by rw [hN]; exact hlt) (fun t ht => by
    have := hs t _ (slotsOf_get N s t (by omega))
    have e : r.tmps.toList.getD t undef = r.tmps.getD t undef := by
      rw [List.getD_eq_getElem?_getD, Array.getD_eq_getD_getElem?]; simp
    rw [e] at this; exact this)
  have hpl : ∀ t, ((s.round ps args h).look t).idOf = none := fun t => by
    rw [look_round hp]
    cases hf : find (ps.zip args) t with
    | none => exact AV.idOf_unown _
    | some x =>
      have : ∀ (ps : List Nat) (args : List AV), (∀ y ∈ args, y.idOf = none) → find (ps.zip args) t = some x → x.idOf = none := by
        intro ps
        induction ps with
        | nil => intro args _ hf; cases hf
        | cons p ps ih =>
          intro args hid hf
          cases args with
          | nil => cases hf
          | cons y args =>
            rw [List.zip_cons_cons] at hf
            unfold find at hf
            split at hf
            · injection hf with hf; subst hf; exact hid _ (List.mem_cons_self ..)
            · exact ih args (fun y hy => hid y (List.mem_cons_of_mem _ hy)) hf
      exact this ps args hid hf
  refine ⟨hW, hS, fun i cs us h1 h2 j c hj => ?_, fun t ht => ⟨?_, .none _ (hpl t)⟩, fun t _ => hpl t, e1.trans hN, Marks.none _ _, Ext.refl G, fun _ _ _ => rfl, fun _ _ hb _ => hb⟩
  · obtain ⟨h3, h4⟩ := hoh i cs us h1 h2 j c hj
    exact ⟨h3.imp2 fun b y B hB _ _ hcl => ⟨hcl, .inr (.inr ⟨i, cs, us, j, c, h1, h2, hj, hB⟩)⟩, h4⟩
  · rw [look_round hp]; exact e2 t (by omega)
/-- What stays behind it. -/
def stays (n : Nat) (h' : List (List AV)) (wr : List Nat) (s : St) : Prop := n ≤ h'.length ∧ h'.length ≤ s.heap.length ∧ leqH 0 (s.heap.take h'.length) h' ∧ ltLL h'.length h' ∧ ∀ i ∈ s.wr, i < n → i ∈ wr
theorem after_plain {G : Ghost} {T : Nat → Prop} {n : Nat} {h' : List (List AV)} {wr : List Nat} (e1 : G.boxv.length = n) (e2 : G.boxes.length = n) {G' : Ghost} {cls' : Nat → Id} {a' : Act} {w' : World} (hR : Rel ⟨G, T⟩ N G' cls' s a' w') (hL : stays n h' wr s) (x : Value) :
    ∃ G2, After G T (.v x) h' wr x G2 cls' w' := by
  obtain ⟨l2, l3, l6, l7, l8⟩ := hL
  have hq : Leq n { s with env := [], own := [] } ⟨[], [], h', wr⟩ := ⟨l2, l3, l6, l7, trivial, trivial, l8⟩
  have hR0 : Rel ⟨G, T⟩ N G' cls' { s with env := [], own := [] } a' w' :=
    ⟨hR.ok, hR.heap, hR.ownh, fun t ht => ⟨.any _, trivial⟩, fun t ht => rfl, hR.size, hR.defers, hR.ext, hR.boxes, hR.bufs⟩
  obtain ⟨G2, hG2, hR2⟩ := hq.rel' e1 e2 hR0
  exact ⟨G2, hR2.ext, hR2.ok, hR2.heap, fun i cs us h1 h2 j c hj => hR2.ownh i cs us h1 h2 j c hj, .v _, .none _ rfl, fun c hc => (by cases hc), fun i hi hn => hR2.boxes i hi hn, fun b B hb hT => hR2.bufs b B hb hT⟩
theorem canon_plain : ∀ (l : List AV) (k : Nat), (∀ y ∈ l, y.idOf = none) → canon k l = l
  | [], _, _ => rfl
  | a :: r, k, h => by
    unfold canon
    rw [canon_plain r (k + 1) fun y hy => h y (List.mem_cons_of_mem _ hy)]
    rcases canonA_cases k a with ⟨_, e⟩ | ⟨c, e0, _⟩ | ⟨c, e0, _⟩
    · rw [e]
    · rw [h a (List.mem_cons_self ..)] at e0; cases e0
    · rw [h a (List.mem_cons_self ..)] at e0; cases e0
theorem idsOf_plain : ∀ (l : List AV), (∀ y ∈ l, y.idOf = none) → idsOf l = []
  | [], _ => rfl
  | a :: r, h => by
    rw [idsOf_cons, h a (List.mem_cons_self ..)]
    exact idsOf_plain r fun y hy => h y (List.mem_cons_of_mem _ hy)

/-- A function that hands over these, one behind the other: all of them, or those that are taken. -/
def IterE (P : Program) (g : FuncId) (cap : List AV) (n : Nat) (xs : Nat → List AV) (all : Bool) (R : List (List AV) → Prop) (E : Nat → List (List AV)) : Prop :=
  ∀ (i : Nat) (r : Loop) (c : Code) (slots : List AV) (H : Nat → List (List AV)) (wr : List Nat), (∀ j, j ≤ n → R (H j)) →
    (∀ j, j < n → YContract P i r c slots (xs j) (H j ++ E j) (.v (.bool !(!all && j + 1 == n))) (H (j + 1) ++ E j) wr) → Contract P g (.yld i r c slots :: cap) (H 0) (.tup []) (H n) wr
end
end Go.Proofs.YtofkddajlgebjaaGreat.Ax
namespace Go.Proofs.YtofkddajlgebjaaGreat.Ax
open Go.RowKit Go By
set_option linter.unusedVariables false
set_option linter.unusedSimpArgs false

/-- What a function found as it began: the variables, and what it was handed. -/
structure Frm where
  h : List (List AV)
  args : List AV
/-- It was handed nothing that owns room. -/
def Frm.plain (m : Frm) : Prop := (∀ x ∈ m.args, x.idOf = none) ∧ ∀ cs ∈ m.h, ∀ c ∈ cs, c.idOf = none
theorem touched_plain {G : Ghost} {m : Frm} {vs : List Value} (hp : m.plain) (b : Nat) : ¬ Touched G m.args vs m.h b := by
  rintro (⟨i, x, h1, h2⟩ | ⟨i, cs, us, j, c, h1, h2, h3, h4⟩)
  · exact h2.1 (hp.1 x (List.mem_of_getElem? h1))
  · exact h4.1 (hp.2 cs (List.mem_of_getElem? h1) c (List.mem_of_getElem? h3))
/-- The cells of one slice are others, and nothing else. -/
structure Turned (w w' : World) (a : Option Addr) (us' : List Value) : Prop where
  keeps : KeepsOthers w w'
  os : w'.os = w.os
  tape : w'.tape = w.tape
  out : w'.output = w.output
  other : ∀ k, k < w.heap.size → (∀ b o, a = some ⟨b, o, none⟩ → k ≠ b) → w'.heap[k]? = w.heap[k]?
  here : ∀ b o, a = some ⟨b, o, none⟩ → ∀ j, w'.frozen? ⟨b, j, none⟩ = w.frozen? ⟨b, j, none⟩ ∧ w'.cell? ⟨b, j, none⟩ = if o ≤ j ∧ j < o + us'.length then us'[j - o]? else w.cell? ⟨b, j, none⟩
def InPlace (P : Program) (g : FuncId) (us us' : List Value) : Prop :=
  Enters P g ∧ us'.length = us.length ∧ (∀ u ∈ us', u.oneCell' = true) ∧ ∀ (w : World) (a : Option Addr) (cap : Nat), us.length ≤ cap →
    (us ≠ [] → ∃ b o, a = some ⟨b, o, none⟩ ∧ b < w.heap.size ∧ ∀ j u, us[j]? = some u → w.cell? ⟨b, o + j, none⟩ = some u ∧ w.frozen? ⟨b, o + j, none⟩ = false) →
    Calls P g #[.slice a us.length cap] w fun e w' => e = .returned (.tuple #[]) ∧ Turned w w' a us'
def plainA (n : Nat) : AV → AV
  | .v x => .v x
  | .box i o => if i < n then .box i o else .any
  | .mp i k o => if i < n then .mp i k o else .any
  | _ => .any
def plainE (n : Nat) : List (Nat × AV) → List (Nat × AV)
  | [] => []
  | (t, a) :: r => (t, plainA n a) :: plainE n r
def anyO : List (Nat × AV) → List (Nat × AV)
  | [] => []
  | (t, _) :: r => (t, .any) :: anyO r
theorem find_plainE (n t : Nat) : ∀ l : List (Nat × AV), find (plainE n l) t = (find l t).map (plainA n)
  | [] => rfl
  | (k, a) :: r => by
    unfold plainE find
    split
    · rfl
    · exact find_plainE n t r
theorem find_anyO (t : Nat) : ∀ l : List (Nat × AV), find (anyO l) t = (find l t).map fun _ => AV.any
  | [] => rfl
  | (k, a) :: r => by
    unfold anyO find
    split
    · rfl
    · exact find_anyO t r
/-- What is known as the function began, and no more. -/
def St.calm (s : St) (m : List (List AV)) : St := ⟨plainE m.length s.env, anyO s.own, m, s.wr⟩
def St.sorted (s : St) (m : List (List AV)) (t d : Nat) (e : Option Nat) (x : AV) : St := (((s.calm m).put d .any).puts e .any false).putO t x
theorem look_calm (s : St) (m : List (List AV)) (t : Nat) : (s.calm m).look t = (match find s.own t with
    | some _ => .any
    | none => match find s.env t with
      | some a => plainA m.length a
      | none => .any) := by
  unfold St.look St.calm
  dsimp only
  rw [find_anyO, find_plainE]
  cases find s.own t with
  | some a => rfl
  | none => cases find s.env t <;> rfl
theorem plainA_id (n : Nat) (a : AV) : (plainA n a).idOf = none := by
  cases a with
  | box i o => show (if i < n then AV.box i o else AV.any).idOf = none; split <;> rfl
  | mp i k o => show (if i < n then AV.mp i k o else AV.any).idOf = none; split <;> rfl
  | _ => rfl
def Ghost.reset (G G0 : Ghost) : Ghost := { w0 := G.w0, bufs := fun x => if (G0.bufs x).isSome = true then G.bufs x else none, boxes := G0.boxes, boxv := G0.boxv, objs := G.objs, kr := G.kr, base := G.base }
section
variable {C : Ctx} {N : Nat} {G : Ghost} {cls : Nat → Id} {s : St} {a : Act} {w : World}
theorem Rel.reset (h : Rel C N G cls s a w) {m : List (List AV)} (hv : C.G0.boxv.length = m.length) (hb : C.G0.boxes.length = m.length) (hS : SeesH C.G0 m) (hid : ∀ cs ∈ m, ∀ c ∈ cs, c.idOf = none) (hwr : ∀ i ∈ s.wr, m.length ≤ i) (cls' : Nat → Id) :
    Rel C N (G.reset C.G0) cls' (s.calm m) a w := by
  have hbox : ∀ (i b : Nat), C.G0.boxes[i]? = some b → G.boxes[i]? = some b := fun i b h1 => h.ext.box_at h1
  have hboxv : ∀ (i : Nat) (vs : List Value), C.G0.boxv[i]? = some vs → G.boxv[i]? = some vs := fun i vs h1 => by
    have hi := (List.getElem?_eq_some_iff.1 h1).1
    rw [h.boxes i hi fun hh => by have := hwr i hh; omega]; exact h1
  have hbufs : ∀ (b : Nat) (B : Buf), (G.reset C.G0).bufs b = some B → G.bufs b = some B := fun b B hB => by
    have hB' : (if (C.G0.bufs b).isSome = true then G.bufs b else none) = some B := hB
    split at hB'
    · exact hB'
    · cases hB'
  have hE : Ext C.G0 (G.reset C.G0) := by
    refine ⟨h.ext.w0, fun b B hB => ?_, ⟨[], by rw [List.append_nil]; rfl⟩, h.ext.objs⟩
    obtain ⟨mo, hm⟩ := h.ext.bufs b B hB
    refine ⟨mo, ?_⟩
    show (if (C.G0.bufs b).isSome = true then G.bufs b else none) = _
    rw [hB]; exact hm
  have hW : WorldOk (G.reset C.G0) w := by
    refine ⟨h.ok.below, fun b B hB => h.ok.buf b B (hbufs b B hB), fun i b vs h1 h2 => ?_, ⟨?_, h.ok.dom⟩, by show C.G0.boxv.length = C.G0.boxes.length; omega, h.ok.obj.obj, fun i b vs κ h1 h2 h3 => h.ok.obj.kbox i b vs κ (hbox i b h1) (hboxv i vs h2) h3, h.ok.obj.kind, h.ok.obj.room⟩
    · obtain ⟨p1, p2, p3, p4⟩ := h.ok.box i b vs (hbox i b h1) (hboxv i vs h2)
      refine ⟨p1, p2, fun hne => ?_, p4⟩
      cases hB : (G.reset C.G0).bufs b with
      | none => rfl
      | some B => have := hbufs b B hB; rw [p3 hne] at this; cases this
    · intro p q x hp hq hpq
      have key : ∀ (p : Nat), C.G0.boxes[p]? = some x → G.boxv[p]? = some [] → C.G0.boxv[p]? = some [] := fun p hp h1 => by
        have hl : p < C.G0.boxv.length := by have := (List.getElem?_eq_some_iff.1 hp).1; omega
        have := hboxv p _ (List.getElem?_eq_getElem hl)
        rw [List.getElem?_eq_getElem hl, ← this, h1]
      rcases h.ok.nodup p q x (hbox p x hp) (hbox q x hq) hpq with h1 | h1
      · exact .inl (key p hp h1)
      · exact .inr (key q hq h1)
  have hH : SeesH (G.reset C.G0) m := ⟨hS.1, fun i cs vs h1 h2 => by
    obtain ⟨p1, p2, p3⟩ := hS.2 i cs vs h1 h2
    exact ⟨p1, p2, fun j c hj => (p3 j c hj).ext hE⟩⟩
  refine ⟨hW, hH, fun i cs vs h1 h2 j c hj => ?_, fun t ht => ?_, fun t ht => ?_, h.size, ?_, hE, fun i hi hn => rfl, fun b B hB hT => ?_⟩
  · have := hid cs (List.mem_of_getElem? h1) c (List.mem_of_getElem? hj)
    exact ⟨.none _ this, fun x hx => by rw [this] at hx; cases hx⟩
  · rw [look_calm]
    have h1 := (h.env t ht).1
    unfold St.look at h1
    cases ho : find s.own t with
    | some x => exact ⟨.any _, trivial⟩
    | none =>
      rw [ho] at h1
      cases he : find s.env t with
      | none => exact ⟨.any _, trivial⟩
      | some x =>
        rw [he] at h1
        dsimp only at h1 ⊢
        refine ⟨?_, .none _ (plainA_id _ _)⟩
        have at_ : ∀ (i b : Nat), i < m.length → G.boxes[i]? = some b → C.G0.boxes[i]? = some b := fun i b hi hb' => by
          obtain ⟨mo, hm⟩ := h.ext.boxes
          rw [hm, List.getElem?_append_left (by omega)] at hb'
          exact hb'
        cases x with
        | v y => rw [h1.inv_v]; exact .v y
        | box i o =>
          show Sees _ (if i < m.length then AV.box i o else AV.any) _
          split
          · rename_i hi
            obtain ⟨b, e, h2, h3⟩ := h1.inv_box
            rw [e]; exact .box _ _ b ⟨at_ i b hi h2, h3⟩
          · exact .any _
        | mp i k o =>
          show Sees _ (if i < m.length then AV.mp i k o else AV.any) _
          split
          · rename_i hi
            obtain ⟨b, e, h2, h3⟩ := h1.inv_mp
            rw [e]; exact .mp _ b _ _ (at_ i b hi h2) h3
          · exact .any _
        | _ => exact .any _
  · rw [look_calm]
    cases ho : find s.own t with
    | some x =>
      have : find (anyO s.own) t = none := ht
      rw [find_anyO, ho] at this; cases this
    | none =>
      cases he : find s.env t with
      | none => rfl
      | some x => exact plainA_id _ _
  · obtain ⟨Ds, d1, d2, d3⟩ := h.defers
    exact ⟨Ds, d1, d2, d3⟩
  · show (if (C.G0.bufs b).isSome = true then G.bufs b else none) = _
    rw [hB]; exact h.bufs b B hB hT
theorem WorldOk.turned (h : WorldOk G w) {w' : World} {ad : Option Addr} {us' : List Value} (hT : Turned w w' ad us')
    (hn : ∀ b o, ad = some ⟨b, o, none⟩ → G.w0.heap.size ≤ b ∧ G.bufs b = none ∧ ∀ (i : Nat) (vs : List Value), G.boxes[i]? = some b → G.boxv[i]? = some vs → vs = []) : WorldOk G w' := by
  have hcell : ∀ b, b < w.heap.size → (∀ b' o, ad = some ⟨b', o, none⟩ → b ≠ b') → ∀ j, w'.cell? ⟨b, j, none⟩ = w.cell? ⟨b, j, none⟩ ∧ w'.frozen? ⟨b, j, none⟩ = w.frozen? ⟨b, j, none⟩ := fun b hb hne j =>
    ⟨World.cell?_of_block (a := ⟨b, j, none⟩) (hT.other b hb hne), World.frozen?_of_block (a := ⟨b, j, none⟩) (hT.other b hb hne)⟩
  refine ⟨h.below.trans ⟨hT.os, hT.tape, hT.out, hT.keeps.size, fun k hk => hT.other k (by have := h.below.size; omega) fun b o e => by have := (hn b o e).1; omega⟩, fun b B hB => ?_, fun i b vs h1 h2 => ?_, h.nodup2, h.len, h.obj.keep ⟨hT.keeps, fun b j hh => ?_⟩⟩
  · obtain ⟨p1, p2, p3, p4, p5⟩ := h.buf b B hB
    have hne : ∀ b' o, ad = some ⟨b', o, none⟩ → b ≠ b' := fun b' o e hh => by subst hh; rw [(hn b o e).2.1] at hB; cases hB
    exact ⟨p1, Nat.lt_of_lt_of_le p2 hT.keeps.size, p3, fun j hj => by rw [(hcell b p2 hne j).1, (hcell b p2 hne j).2]; exact p4 j hj, fun j x hx => by rw [(hcell b p2 hne j).1]; exact p5 j x hx⟩
  · obtain ⟨p1, p2, p3, p4⟩ := h.box i b vs h1 h2
    refine ⟨p1, Nat.lt_of_lt_of_le p2 hT.keeps.size, p3, fun j x hx hk => ?_⟩
    have hne : ∀ b' o, ad = some ⟨b', o, none⟩ → b ≠ b' := fun b' o e hh => by subst hh; rw [(hn b o e).2.2 i vs h1 h2] at hx; simp at hx
    rw [(hcell b p2 hne _).1, (hcell b p2 hne _).2]; exact p4 j x hx hk
  · by_cases hne : ∀ b' o, ad = some ⟨b', o, none⟩ → b ≠ b'
    · rw [(hcell b (cell_lt hh.1) hne j).1, (hcell b (cell_lt hh.1) hne j).2]; exact hh
    · have : ∃ o, ad = some ⟨b, o, none⟩ := Classical.byContradiction fun hn2 => hne fun b' o e e2 => hn2 ⟨o, by subst e2; exact e⟩
      obtain ⟨o, e⟩ := this
      obtain ⟨q1, q2⟩ := hT.here b o e j
      rw [q1, q2]
      refine ⟨?_, hh.2⟩
      split
      · rename_i hin
        rw [List.getElem?_eq_getElem (by omega)]; rfl
      · exact hh.1
theorem Rel.turned (h : Rel C N G cls s a w) {w' : World} {ad : Option Addr} {us' : List Value} (hT : Turned w w' ad us')
    (hn : ∀ b o, ad = some ⟨b, o, none⟩ → G.w0.heap.size ≤ b ∧ G.bufs b = none ∧ ∀ (i : Nat) (vs : List Value), G.boxes[i]? = some b → G.boxv[i]? = some vs → vs = []) : Rel C N G cls s a w' :=
  ⟨h.ok.turned hT hn, h.heap, h.ownh, h.env, h.plain, h.size, h.defers, h.ext, h.boxes, h.bufs⟩
/-- A block of which nothing is known is known from here on. -/
theorem Rel.learn (h : Rel C N G cls s a w) {b : Nat} {B : Buf} (hb : G.bufs b = none) (h0 : G.w0.heap.size ≤ b) (h1 : b < w.heap.size) (h2 : B.cells.length ≤ B.size) (h3 : ∀ j, j < B.size → (w.cell? ⟨b, j, none⟩).isSome = true ∧ w.frozen? ⟨b, j, none⟩ = false)
    (h4 : ∀ (j : Nat) (x : Value), B.cells[j]? = some x → w.cell? ⟨b, j, none⟩ = some x) (h5 : ∀ (i : Nat) (vs : List Value), G.boxes[i]? = some b → G.boxv[i]? = some vs → vs = []) : Rel C N (G.setBuf b B) cls s a w ∧ Ext G (G.setBuf b B) := by
  have keepB : ∀ (x : Nat) (B' : Buf), G.bufs x = some B' → (G.setBuf b B).bufs x = some B' := fun x B' hB => by
    have hne : x ≠ b := fun e => by subst e; rw [hb] at hB; cases hB
    show (if x = b then _ else G.bufs x) = _
    rw [if_neg hne, hB]
  have hE : Ext G (G.setBuf b B) := ⟨rfl, fun x B' hB => ⟨[], by rw [keepB x B' hB, List.append_nil]⟩, ⟨[], by rw [List.append_nil]; rfl⟩, fun _ _ h => h, fun _ _ _ => ⟨rfl, rfl⟩⟩
  have hW : WorldOk (G.setBuf b B) w := by
    refine ⟨h.ok.below, fun x B' hB => ?_, fun i x vs e1 e2 => ?_, h.ok.nodup2, h.ok.len, h.ok.objK (Keeps.refl w)⟩
    · have hB' : (if x = b then some B else G.bufs x) = some B' := hB
      split at hB'
      · rename_i e
        subst e
        injection hB' with hB'
        subst hB'
        exact ⟨h0, h1, h2, h3, h4⟩
      · exact h.ok.buf x B' hB'
    · obtain ⟨p1, p2, p3, p4⟩ := h.ok.box i x vs e1 e2
      refine ⟨p1, p2, fun hne => ?_, p4⟩
      have hxb : x ≠ b := fun e => by subst e; exact hne (h5 i vs e1 e2)
      show (if x = b then _ else G.bufs x) = none
      rw [if_neg hxb]; exact p3 hne
  refine ⟨h.next hE hW keepB ⟨h.heap.1, fun i cs us e1 e2 => ?_⟩ (fun i cs us e1 e2 j c hj => ?_) h.boxes, hE⟩
  · obtain ⟨q1, q2, q3⟩ := h.heap.2 i cs us e1 e2
    exact ⟨q1, q2, fun j c hj => (q3 j c hj).ext hE⟩
  · obtain ⟨q1, q2⟩ := h.ownh i cs us e1 e2 j c hj
    exact ⟨q1.keep fun x B' _ hB _ => keepB x B' hB, q2⟩
/-- Elements that are plain. -/
def vE (us : List Value) : List (List AV) := us.map fun u => [AV.v u]
theorem vE_get {us : List Value} {i : Nat} {e : List AV} (h : (vE us)[i]? = some e) : ∃ u, us[i]? = some u ∧ e = [.v u] := by
  unfold vE at h
  rw [List.getElem?_map] at h
  cases hu : us[i]? with
  | none => rw [hu] at h; cases h
  | some u => rw [hu] at h; injection h with h; exact ⟨u, rfl, h.symm⟩
theorem Rel.seeO (h : Rel C N G cls s a w) {t : Nat} (ht : t < N) {b : AV} (hs : Sees G b (a.tmps.getD t undef)) (hO : OwnAt G (Own C cls) b (a.tmps.getD t undef)) : Rel C N G cls (s.putO t b) a w := by
  refine ⟨h.ok, h.heap, h.ownh, fun u hu => ?_, fun u hu => ?_, h.size, h.defers, h.ext, h.boxes, h.bufs⟩
  · rw [look_putO]
    split
    · rename_i e; subst e; exact ⟨hs, hO⟩
    · exact h.env u hu
  · rw [find_own_putO] at hu
    rw [look_putO]
    split
    · rename_i hdt; rw [if_pos hdt] at hu; cases hu
    · rename_i hdt; rw [if_neg hdt] at hu; exact h.plain u hu
theorem tmps_two (a : Act) {t d : Nat} {e : Option Nat} (v1 v2 : Value) (htd : t ≠ d) (hte : e ≠ some t) : ((a.put (some d) v1).put e v2).tmps.getD t undef = a.tmps.getD t undef := by
  have one : ∀ (a : Act) (d : Nat) (v : Value), t ≠ d → (a.put (some d) v).tmps.getD t undef = a.tmps.getD t undef := fun a d v h => by
    simp only [Act.put, Array.getD_eq_getD_getElem?, Array.getElem?_setIfInBounds]
    rw [if_neg (fun e => h e.symm)]
  cases e with
  | none => exact one a d v1 htd
  | some x => rw [one _ x v2 (fun h => hte (by rw [h])), one a d v1 htd]
/-- Where the slice lies in what is new: it is sorted, say, and the rest is as it was as the function began. -/
theorem Rel.sortedA (h : Rel C N G cls s a w) {P : Program} {g : FuncId} {A : Value → Array Value} {m : Frm} (hv : C.G0.boxv.length = m.h.length) (hb : C.G0.boxes.length = m.h.length) (hS : SeesH C.G0 m.h) (hT : m.plain → ∀ b, ¬ C.T b) (hp : m.plain) (hwr : ∀ i ∈ s.wr, m.h.length ≤ i)
    {t : Nat} (ht : t < N)
    {us us' : List Value} {k : Nat} {nul : Option Bool} {room : Room} (hl : s.look t = .sl k (vE us) nul room) (hroom : (k = 1 ∧ ∃ c, room = .own c ∧ c.isNew = true) ∨ nul = some true) (hl' : us'.length = us.length) (ho' : ∀ u ∈ us', u.oneCell' = true)
    (hcall : ∀ (ad : Option Addr) (cap : Nat), us.length ≤ cap → (us ≠ [] → ∃ b o, ad = some ⟨b, o, none⟩ ∧ b < w.heap.size ∧ (G.bufs b).isSome = true ∧ ∀ j u, us[j]? = some u → w.cell? ⟨b, o + j, none⟩ = some u ∧ w.frozen? ⟨b, o + j, none⟩ = false) →
      Calls P g (A (.slice ad us.length cap)) w fun e w' => e = .returned (.tuple #[]) ∧ Turned w w' ad us') :
    ∃ ad cap, a.tmps.getD t undef = .slice ad us.length cap ∧ Calls P g (A (.slice ad us.length cap)) w fun r w' => r = .returned (.tuple #[]) ∧ ∀ (s2 : St) (a2 : Act), (∀ (G1 : Ghost) (cls1 : Nat → Id), Rel C N G1 cls1 (s.calm m.h) a w' → Rel C N G1 cls1 s2 a2 w') → a2.tmps.getD t undef = a.tmps.getD t undef → ∃ G' cls', Rel C N G' cls' (s2.putO t (.sl 1 (vE us') nul (.own (.new t)))) a2 w' := by
  obtain ⟨hse, hown⟩ := h.env t ht
  rw [hl] at hse hown
  cases hval : a.tmps.getD t undef with
  | slice ad len cap =>
    rw [hval] at hse hown
    cases hse with
    | sl _ _ _ _ _ _ _ u hlen hn hkk hcap hm hr hc hs h1 =>
      have hlu : len = us.length := by rw [hlen]; unfold vE; simp
      subst hlu
      have hR1 := h.reset hv hb hS hp.2 hwr (fun _ => Id.new t)
      -- where it lies
      have hplace : (ad = none ∧ us = []) ∨ ∃ b o B, ad = some ⟨b, o, none⟩ ∧ k = 1 ∧ G.bufs b = some B ∧ B.cells.length = o + us.length ∧ o + cap ≤ B.size ∧ C.G0.bufs b = none := by
        have nul_none : ad = none → us = [] := fun e1 => List.eq_nil_of_length_eq_zero (hn.1 e1).2
        rcases hroom with ⟨rfl, c, rfl, hc1⟩ | hnul
        · rcases hown with ⟨_, hx⟩ | ⟨b, o, B, e1, e2, e3, e4, e5⟩
          · exact .inl ⟨hx hc1, nul_none (hx hc1)⟩
          · have hacc : C.G0.bufs b = none := by
              rcases e5.2 with h6 | h6
              · exact h6
              · exact absurd h6 (hT hp b)
            exact .inr ⟨b, o, B, e1, rfl, e2, by rw [e3, Nat.mul_one], by simpa using e4, hacc⟩
        · exact .inl ⟨hn.2.1 hnul, nul_none (hn.2.1 hnul)⟩
      have hcells : us ≠ [] → ∃ b o, ad = some ⟨b, o, none⟩ ∧ b < w.heap.size ∧ (G.bufs b).isSome = true ∧ ∀ j u, us[j]? = some u → w.cell? ⟨b, o + j, none⟩ = some u ∧ w.frozen? ⟨b, o + j, none⟩ = false := fun hne => by
        rcases hplace with ⟨_, hx⟩ | ⟨b, o, B, rfl, rfl, e2, e3, e4, _⟩
        · exact absurd hx hne
        · obtain ⟨p1, p2, p3, p4, p5⟩ := h.ok.buf b B e2
          refine ⟨b, o, rfl, p2, by rw [e2]; rfl, fun j x hj => ?_⟩
          have hjl := (List.getElem?_eq_some_iff.1 hj).1
          have hpos : 0 < (vE us).length := by unfold vE; simp; omega
          obtain ⟨b', o', e5, e6⟩ := hc hpos
          injection e5 with e5
          injection e5 with e5 e7
          subst e5 e7
          have hj' : j < (vE us).length := by unfold vE; simpa using hjl
          have hcj := h.ok.cell (e6 j 0 hj' Nat.one_pos)
          have hve : (vE us)[j]? = some [.v x] := by unfold vE; rw [List.getElem?_map, hj]; rfl
          have hux := (hs j _ hve 0 _ rfl).inv_v
          rw [Nat.mul_one, Nat.add_zero, hux] at hcj
          exact ⟨hcj, (p4 _ (by omega)).2⟩
      refine ⟨ad, cap, rfl, (hcall ad cap hcap hcells).mono fun r w' hr => ⟨hr.1, fun s2 a2 hstep htv => ?_⟩⟩
      have hTu := hr.2
      have tval : a2.tmps.getD t undef = .slice ad us.length cap := htv
      have hne1 : ∀ x ∈ vE us', x.length = 1 := fun x hx => by unfold vE at hx; obtain ⟨y, _, rfl⟩ := List.mem_map.1 hx; rfl
      have hvl : (vE us').length = us.length := by unfold vE; simp [hl']
      rcases hplace with ⟨hx, hy⟩ | ⟨b, o, B, hx, rfl, e2, e3, e4, e5⟩
      · subst hx hy
        have hu' : us' = [] := List.eq_nil_of_length_eq_zero hl'
        subst hu'
        have hR2 := hstep _ _ (hR1.turned hTu (fun b o e => by cases e))
        refine ⟨_, _, hR2.seeO ht (b := .sl 1 (vE []) nul (.own (.new t))) ?_ ?_⟩
        · rw [tval]
          exact .sl 1 [] nul _ none 0 cap (fun _ _ => undef) rfl hn (fun e he => by cases he) hcap hm (fun h => by cases h) (fun h => by simp at h) (fun i e he => by simp at he) (fun i j hi => by simp at hi)
        · rw [tval]
          exact .inl ⟨(hn.1 rfl).1, fun _ => rfl⟩
      · subst hx
        obtain ⟨p1, p2, p3, p4, p5⟩ := h.ok.buf b B e2
        have hbn : (G.reset C.G0).bufs b = none := by
          show (if (C.G0.bufs b).isSome = true then G.bufs b else none) = none
          rw [e5]; rfl
        have hbx : ∀ (i : Nat) (vs : List Value), (G.reset C.G0).boxes[i]? = some b → (G.reset C.G0).boxv[i]? = some vs → vs = [] := fun i vs q1 q2 => by
          refine Classical.byContradiction fun hne => ?_
          have hi := (List.getElem?_eq_some_iff.1 (show C.G0.boxv[i]? = some vs from q2)).1
          have q3 : G.boxv[i]? = some vs := by rw [h.boxes i hi fun hh => by have := hwr i hh; omega]; exact q2
          have := (h.ok.box i b vs (h.ext.box_at q1) q3).2.2.1 hne
          rw [e2] at this; cases this
        have hR2 := hR1.turned hTu (fun b' o' e => by
          injection e with e; injection e with e e'; subst e e'
          exact ⟨p1, hbn, hbx⟩)
        have hcl : ∀ j x, (B.cells.take o ++ us')[j]? = some x → w'.cell? ⟨b, j, none⟩ = some x := fun j x hj => by
          rw [(hTu.here b o rfl j).2]
          have htl : (B.cells.take o).length = o := by rw [List.length_take]; omega
          by_cases hjo : j < o
          · rw [List.getElem?_append_left (by omega), List.getElem?_take, if_pos hjo] at hj
            rw [if_neg (by omega)]; exact p5 j x hj
          · rw [List.getElem?_append_right (by omega), htl] at hj
            have := (List.getElem?_eq_some_iff.1 hj).1
            rw [if_pos (by omega)]; exact hj
        have htl : (B.cells.take o ++ us').length = o + us.length := by rw [List.length_append, List.length_take, hl']; omega
        obtain ⟨hR3, hE3⟩ := hR2.learn (B := ⟨B.cells.take o ++ us', B.size⟩) hbn p1 (Nat.lt_of_lt_of_le p2 hTu.keeps.size) (by show _ ≤ B.size; rw [htl]; omega) (fun j hj => by
          obtain ⟨q1, q2⟩ := hTu.here b o rfl j
          obtain ⟨q3, q4⟩ := p4 j hj
          refine ⟨?_, by rw [q1]; exact q4⟩
          rw [q2]
          split
          · rename_i hin
            rw [List.getElem?_eq_getElem (by omega)]; rfl
          · exact q3) hcl hbx
        have hR4 := hstep _ _ hR3
        have hbuf : ((G.reset C.G0).setBuf b ⟨B.cells.take o ++ us', B.size⟩).bufs b = some ⟨B.cells.take o ++ us', B.size⟩ := if_pos rfl
        refine ⟨_, _, hR4.seeO ht (b := .sl 1 (vE us') nul (.own (.new t))) ?_ ?_⟩
        · rw [tval]
          refine .sl 1 (vE us') nul _ (some ⟨b, o, none⟩) us.length cap (fun i _ => us'.getD i undef) hvl.symm hn hne1 (by rw [← hl'] at hcap; rw [← hl']; exact hcap) hm (fun h => by cases h) (fun hpos => ⟨b, o, rfl, fun i j hi hj => ?_⟩) (fun i e he j c hj => ?_) (fun i j hi hj => ?_)
          · have hj0 : j = 0 := by omega
            subst hj0
            have hi' : i < us'.length := by rw [hl', ← hvl]; exact hi
            unfold Ghost.cell
            rw [if_neg (by show ¬ b < G.w0.heap.size; omega), hbuf]
            show (B.cells.take o ++ us')[o + i * 1 + 0]? = _
            have htl2 : (B.cells.take o).length = o := by rw [List.length_take]; omega
            rw [List.getElem?_append_right (by omega), htl2, show o + i * 1 + 0 - o = i by omega, List.getD_eq_getElem?_getD, List.getElem?_eq_getElem hi']
            rfl
          · obtain ⟨y, hy, rfl⟩ := vE_get he
            cases j with
            | zero => simp at hj; subst hj; rw [List.getD_eq_getElem?_getD, hy]; exact .v y
            | succ j => simp at hj
          · have hi' : i < us'.length := by rw [hl', ← hvl]; exact hi
            rw [List.getD_eq_getElem?_getD, List.getElem?_eq_getElem hi']
            exact ho' _ (List.getElem_mem hi')
        · rw [tval]
          refine .inr ⟨b, o, _, rfl, hbuf, ?_, ?_, rfl, .inl e5⟩
          · show (B.cells.take o ++ us').length = _
            rw [htl, Nat.mul_one]
          · show o + cap * 1 ≤ B.size
            omega
  | _ => rw [hval] at hse; cases hse
theorem Rel.sorted (h : Rel C N G cls s a w) {P : Program} {g : FuncId} {m : Frm} (hv : C.G0.boxv.length = m.h.length) (hb : C.G0.boxes.length = m.h.length) (hS : SeesH C.G0 m.h) (hT : m.plain → ∀ b, ¬ C.T b) (hp : m.plain) (hwr : ∀ i ∈ s.wr, m.h.length ≤ i)
    {t d : Nat} {e : Option Nat} (ht : t < N) (hd : d < N) (he : ∀ x, e = some x → x < N) (htd : t ≠ d) (hte : e ≠ some t)
    {us us' : List Value} {k : Nat} {nul : Option Bool} {room : Room} (hl : s.look t = .sl k (vE us) nul room) (hroom : (k = 1 ∧ ∃ c, room = .own c ∧ c.isNew = true) ∨ nul = some true) (hI : InPlace P g us us') :
    ∃ ad cap, a.tmps.getD t undef = .slice ad us.length cap ∧ Calls P g #[.slice ad us.length cap] w fun r w' => r = .returned (.tuple #[]) ∧ ∀ v1 v2, ∃ G' cls', Rel C N G' cls' (s.sorted m.h t d e (.sl 1 (vE us') nul (.own (.new t)))) ((a.put (some d) v1).put e v2) w' := by
  obtain ⟨hEn, hl', ho', hcall⟩ := hI
  obtain ⟨ad, cap, h1, h2⟩ := h.sortedA (A := fun x => #[x]) hv hb hS hT hp hwr ht hl hroom hl' ho' fun ad cap hc hx => hcall w ad cap hc fun hne => by
    obtain ⟨b, o, q1, q2, _, q3⟩ := hx hne
    exact ⟨b, o, q1, q2, q3⟩
  exact ⟨ad, cap, h1, h2.mono fun r w' hr => ⟨hr.1, fun v1 v2 => hr.2 _ _ (fun G1 cls1 hR => (hR.put hd (.any v1) rfl).puts he (o := false) (.any v2) trivial (fun _ => rfl)) (tmps_two a v1 v2 htd hte)⟩⟩
/-- .. by a function that is handed beside it. -/
def InPlaceC (P : Program) (g : FuncId) (us us' : List Value) (fa : AV) (h : List (List AV)) : Prop :=
  Enters P g ∧ us'.length = us.length ∧ (∀ u ∈ us', u.oneCell' = true) ∧ ∀ (G : Ghost) (w : World) (fv : Value) (a : Option Addr) (cap : Nat), WorldOk G w → SeesH G h → Sees G fa fv → us.length ≤ cap →
    (us ≠ [] → ∃ b o, a = some ⟨b, o, none⟩ ∧ b < w.heap.size ∧ (G.bufs b).isSome = true ∧ ∀ j u, us[j]? = some u → w.cell? ⟨b, o + j, none⟩ = some u ∧ w.frozen? ⟨b, o + j, none⟩ = false) →
    Calls P g #[.slice a us.length cap, fv] w fun e w' => e = .returned (.tuple #[]) ∧ Turned w w' a us'
def St.sortedF (s : St) (m : List (List AV)) (t d d2 : Nat) (e : Option Nat) (x : AV) : St := ((((s.calm m).put d .any).put d2 .any).puts e .any false).putO t x
end
end Go.Proofs.YtofkddajlgebjaaGreat.Ax
