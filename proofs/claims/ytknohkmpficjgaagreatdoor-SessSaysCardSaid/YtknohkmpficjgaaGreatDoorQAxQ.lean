import Derived.Test.YtknohkmpficjgaaGreatDoorQAxYa
import Derived.ControlIn
import Derived.Scope
import Derived.RangeFuncLeaves
import Derived.RangeFuncIn
import Derived.RangeFuncRecord
set_option linter.unusedSimpArgs false
set_option linter.unusedVariables false
open List renaming getElem?_eq_some_iff -> Q7, getElem?_eq_getElem -> Q8, getElem?_append_left -> Q9, getElem?_take -> Ra, mem_of_getElem? -> Rb, getD_eq_getElem?_getD -> Re, mem_cons_self -> Rf, mem_cons_of_mem -> Rh, getElem?_set -> Rk, eq_nil_of_length_eq_zero -> Rl, append_nil -> Rm, getElem?_append_right -> Rn, mem_cons -> Rp, mem_singleton -> Rq, length_take -> Rr, mem_or_eq_of_mem_set -> Rt, zip_cons_cons -> Rv, getElem?_map -> Rw, map_cons -> Ry, mem_map -> RA, mem_of_mem_eraseIdx -> RB, map_toArray -> RC, all_eq_true -> RD, mem_append -> RF, length_set -> RG, take_of_length_le -> RI, getElem?_eq_none -> RJ, mem_append_right -> RK, range -> RM, getElem?_range -> RP, map_nil -> RQ, mem_flatMap -> RT, cons_append -> RU, take_append -> RV, getElem_mem -> RW, nodup_cons -> R0, mapM_cons -> R1, mem_range -> R2
open Array renaming getD_eq_getD_getElem? -> Rc, getElem?_eq_some_iff -> Rg, toArray_toList -> Ri, getElem?_eq_getElem -> Ro, replicate -> Ru, getElem?_eq_none -> RH, map_map -> R3
open Bool renaming and_eq_true -> Rj
open Nat renaming lt_of_lt_of_le -> Rx, mul_le_mul_right -> RN, lt_or_ge -> RR, mul_one -> RS, not_lt_zero -> RX, strongRecOn -> RZ, succ_mul -> R4
open Classical renaming byContradiction -> Rz, choose -> RE, choose_spec -> RL
open Option renaming bind_eq_bind -> RO, pure_def -> RY
namespace Go.Proofs.YtknohkmpficjgaaGreatDoor.Ax
open Go.RowKit Go By
def Ghost.newKind (G : Ghost) (b : Nat) (κ : Kind) (vs : List Value) : Ghost := { G with boxes := G.boxes ++ [b], boxv := G.boxv ++ [vs], kr := fun x => if x = b then (some κ, 0) else G.kr x }
theorem WorldOk.newKind {G : Ghost} {w : World} (h : WorldOk G w) (κ : Kind) (vs : List Value) (hvs : vs.head? = some (.chan none)) : WorldOk (G.newKind w.heap.size κ vs) (w.alloc (κ.obj vs)) /\ Ext G (G.newKind w.heap.size κ vs) := by
 have old : ∀ b, b < w.heap.size -> (w.alloc (κ.obj vs)).heap[b]? = w.heap[b]? := fun b hb => heap_alloc_old w _ hb
 have oldc : ∀ b, b < w.heap.size -> ∀ j, (w.alloc (κ.obj vs)).cell? ⟨b, j, none⟩ = w.cell? ⟨b, j, none⟩ /\ (w.alloc (κ.obj vs)).frozen? ⟨b, j, none⟩ = w.frozen? ⟨b, j, none⟩ := fun b hb j =>
  ⟨World.cell?_of_block (a := ⟨b, j, none⟩) (old b hb), World.frozen?_of_block (a := ⟨b, j, none⟩) (old b hb)⟩
 have hL : (w.alloc (κ.obj vs)).heap[w.heap.size]? = some (κ.obj vs) := heap_alloc_new w _
 have hsz : (w.alloc (κ.obj vs)).heap.size = w.heap.size + 1 := by simp
 have hlow := h.below.size
 have at_ : ∀ i b us, (G.boxes ++ [w.heap.size])[i]? = some b -> (G.boxv ++ [vs])[i]? = some us -> (G.boxes[i]? = some b /\ G.boxv[i]? = some us /\ b < w.heap.size) \/ (b = w.heap.size /\ us = vs) := fun i b us h1 h2 => by
  by_cases hi : i < G.boxes.length
  ·left
   rw [Q9 hi] at h1
   rw [Q9 (by rw [h.len]; exact hi)] at h2
   exact ⟨h1, h2, (h.boxlt h1).1⟩
  ·right
   have hi2 : i = G.boxes.length := by
    have := (Q7.1 h1).1
    simp at this; omega
   subst hi2
   simp at h1
   rw [<- h.len] at h2
   simp at h2
   exact ⟨h1.symm, h2.symm⟩
 have krold : ∀ b, b < w.heap.size -> (G.newKind w.heap.size κ vs).kr b = G.kr b := fun b hb => by
  show (if b = w.heap.size then _ else G.kr b) = _
  rw [if_neg (by omega)]
 have kold : ∀ b, b < w.heap.size -> (G.newKind w.heap.size κ vs).kinds b = G.kinds b := fun b hb => congrArg Prod.fst (krold b hb)
 refine ⟨⟨h.below.alloc hlow _, fun b B hB => ?_, fun i b us h1 h2 => ?_, ⟨?_, h.dom⟩, by simp [Ghost.newKind, h.len], fun b o ho => ?_, fun i b us κ' h1 h2 h3 => ?_, fun b hb => ?_, fun b j hj => ?_⟩, rfl, fun b B hB => ⟨[], by show G.bufs b = _; rw [hB, Rm]⟩, ⟨_, rfl⟩, fun b o ho => ho, fun i b hb => ⟨krold b (h.boxlt hb).1, rfl⟩⟩
 ·obtain ⟨p1, p2, p3, p4, p5⟩ := h.buf b B hB
  exact ⟨p1, by rw [hsz]; omega, p3, fun j hj => by rw [(oldc b p2 j).1, (oldc b p2 j).2]; exact p4 j hj, fun j x hx => by rw [(oldc b p2 j).1]; exact p5 j x hx⟩
 ·rcases at_ i b us h1 h2 with ⟨h3, h4, h5⟩ | ⟨rfl, rfl⟩
  ·obtain ⟨p1, p2, p3, p4⟩ := h.box i b us h3 h4
   exact ⟨p1, by rw [hsz]; omega, p3, fun j x hx hkn => by rw [(oldc b p2 _).1, (oldc b p2 _).2]; exact p4 j x hx ((kold b h5).symm.trans hkn)⟩
  ·refine ⟨hlow, by rw [hsz]; omega, fun _ => h.fresh, fun j x hx hkn => ?_⟩
   have hkn' : (if w.heap.size = w.heap.size then (some κ, 0) else G.kr w.heap.size).1 = none := hkn
   rw [if_pos rfl] at hkn'; cases hkn'
 ·exact h.nodup.snoc h.len (fun i hi => by have := (h.boxlt hi).1; omega) vs
 ·obtain ⟨p1, p2, p3⟩ := h.obj.obj b o ho
  exact ⟨(old b (Rg.1 p1).1).trans p1, p2, p3⟩
 ·rcases at_ i b us h1 h2 with ⟨h4, h5, h6⟩ | ⟨rfl, rfl⟩
  ·obtain ⟨p1, p2⟩ := h.obj.kbox i b us κ' h4 h5 ((kold b h6).symm.trans h3)
   exact ⟨(old b h6).trans p1, p2⟩
  ·have h3' : (if w.heap.size = w.heap.size then (some κ, 0) else G.kr w.heap.size).1 = some κ' := h3
   rw [if_pos rfl] at h3'
   injection h3' with h3'; subst h3'
   exact ⟨hL, hvs⟩
 ·rw [hsz]
  have hb' : (if b = w.heap.size then (some κ, 0) else G.kr b).1 ≠ none := hb
  split at hb'
  ·omega
  ·have := h.obj.kind b hb'; omega
 ·have hj' : j < (if b = w.heap.size then (some κ, 0) else G.kr b).2 := hj
  split at hj'
  ·exact absurd hj' (RX _)
  ·have p := h.obj.room b j hj'
   have := fw p.1
   rw [(oldc b this j).1, (oldc b this j).2]; exact p
section
variable {P : Program} {C : Ctx} {N : Nat} {G : Ghost} {cls : Nat -> Id} {s : St} {a : Act} {w : World} {Q : Exit -> Act -> World -> Prop}
theorem Rel.turnBox (h : Rel C N G cls s a w) {i b : Nat} {κ : Kind} (hb : G.boxes[i]? = some b) (hk : G.kinds b = some κ) {us : List Value} (hus : G.boxv[i]? = some us) {cs : List AV} {vs : List Value} (hs : SeesL G cs vs) (h1 : ∀ x ∈ vs, x.oneCell' = true) (hid : ∀ c ∈ cs, c.idOf = none) (hhd : vs.head? = some (.chan none)) :
  Rel C N (G.setBox i vs) cls { s with heap := s.heap.set i cs, wr := i :: s.wr } a (w.putObj b (κ.obj vs)) /\ Stays G (G.setBox i vs) s { s with heap := s.heap.set i cs, wr := i :: s.wr } := by
 have hE := Ext.setBox (G := G) i vs
 have hil2 : i < G.boxv.length := (Q7.1 hus).1
 have hil : i < s.heap.length := by rw [h.heap.1]; exact hil2
 have at_ : ∀ (i' : Nat) (ds : List AV) (ws : List Value), (s.heap.set i cs)[i']? = some ds -> (G.boxv.set i vs)[i']? = some ws -> (i' = i /\ ds = cs /\ ws = vs) \/ (i' ≠ i /\ s.heap[i']? = some ds /\ G.boxv[i']? = some ws) := fun i' ds ws e1 e2 => by
  rw [Rk] at e1 e2
  by_cases hi : i = i'
  ·subst hi
   rw [if_pos rfl, if_pos hil] at e1
   rw [if_pos rfl, if_pos hil2] at e2
   injection e1 with e1; injection e2 with e2
   exact .inl ⟨rfl, e1.symm, e2.symm⟩
  ·rw [if_neg hi] at e1 e2
   exact .inr ⟨fun hh => hi hh.symm, e1, e2⟩
 refine ⟨h.next hE (h.ok.turnK hb hk hus vs hhd) (fun b B hB => hB) ⟨by simp [Ghost.setBox, h.heap.1], fun i' ds ws e1 e2 => ?_⟩ (fun i' ds ws e1 e2 j c hj => ?_) (fun i' hi' hn => ?_), ⟨hE, [i], rfl, fun i' hi' hn => ?_⟩⟩
 ·rcases at_ i' ds ws e1 e2 with ⟨rfl, rfl, rfl⟩ | ⟨_, h3, h4⟩
  ·exact ⟨hs.1, h1, fun j c hj => (hs.2 j c hj).ext hE⟩
  ·obtain ⟨h5, h6, h7⟩ := h.heap.2 i' ds ws h3 h4
   exact ⟨h5, h6, fun j c hj => (h7 j c hj).ext hE⟩
 ·rcases at_ i' ds ws e1 e2 with ⟨rfl, rfl, rfl⟩ | ⟨_, h3, h4⟩
  ·have := hid c (Rb hj)
   exact ⟨.none _ this, fun x hx => by rw [this] at hx; cases hx⟩
  ·obtain ⟨h5, h6⟩ := h.ownh i' ds ws h3 h4 j c hj
   exact ⟨h5.keep fun b B c hb _ => hb, h6⟩
 ·have hne : i ≠ i' := fun e => hn (by subst e; exact Rf ..)
  show (G.boxv.set i _)[i']? = _
  rw [Rk, if_neg hne]
  exact h.boxes i' hi' fun hh => hn (Rh _ hh)
 ·have hne : i ≠ i' := fun hh => by subst hh; exact hn (Rf ..)
  show (G.boxv.set i _)[i']? = _
  rw [List.getElem?_set_ne hne]
theorem Rel.newKind (h : Rel C N G cls s a w) (κ : Kind) {cs : List AV} {vs : List Value} (hs : SeesL G cs vs) (h1 : ∀ x ∈ vs, x.oneCell' = true) (hi : ∀ c ∈ cs, c.idOf = none) (hhd : vs.head? = some (.chan none)) :
  Rel C N (G.newKind w.heap.size κ vs) cls { s with heap := s.heap ++ [cs] } a (w.alloc (κ.obj vs)) /\ (G.newKind w.heap.size κ vs).boxes[s.heap.length]? = some w.heap.size /\ (G.newKind w.heap.size κ vs).kinds w.heap.size = some κ /\ Ext G (G.newKind w.heap.size κ vs) := by
 obtain ⟨hW, hE⟩ := h.ok.newKind κ vs hhd
 have at_ : ∀ (i : Nat) (ds : List AV) (us : List Value), (s.heap ++ [cs])[i]? = some ds -> (G.boxv ++ [vs])[i]? = some us -> (s.heap[i]? = some ds /\ G.boxv[i]? = some us) \/ (ds = cs /\ us = vs) := fun i ds us h1 h2 => by
  by_cases hl : i < s.heap.length
  ·left
   rw [Q9 hl] at h1
   rw [Q9 (by rw [<- h.heap.1]; exact hl)] at h2
   exact ⟨h1, h2⟩
  ·right
   have hl2 : i = s.heap.length := by
    have := (Q7.1 h1).1
    simp at this; omega
   subst hl2
   simp at h1
   rw [h.heap.1] at h2
   simp at h2
   exact ⟨h1.symm, h2.symm⟩
 refine ⟨h.next hE hW (fun b B hb => hb) ⟨by simp [Ghost.newKind, h.heap.1], fun i ds us h8 h9 => ?_⟩ (fun i ds us h8 h9 j c hj => ?_) (fun i hi2 hw => ?_), ?_, ?_, hE⟩
 ·rcases at_ i ds us h8 h9 with ⟨h3, h4⟩ | ⟨rfl, rfl⟩
  ·obtain ⟨h5, h7, h6⟩ := h.heap.2 i ds us h3 h4
   exact ⟨h5, h7, fun j c hj => (h6 j c hj).ext hE⟩
  ·exact ⟨hs.1, h1, fun j c hj => (hs.2 j c hj).ext hE⟩
 ·rcases at_ i ds us h8 h9 with ⟨h3, h4⟩ | ⟨rfl, rfl⟩
  ·obtain ⟨h5, h6⟩ := h.ownh i ds us h3 h4 j c hj
   exact ⟨h5.keep fun b B c hb _ => hb, h6⟩
  ·have := hi c (Rb hj)
   exact ⟨.none _ this, fun x hx => by rw [this] at hx; cases hx⟩
 ·obtain ⟨m, hm⟩ := h.ext.boxes
  have hlt : i < G.boxv.length := by
   have h1 := h.ok.len
   rw [hm] at h1
   simp at h1
   by_cases hh : i < G.boxv.length
   ·exact hh
   ·have h2 := h.boxes i hi2 hw
    rw [RJ (by omega), Q8 hi2] at h2
    cases h2
  show (G.boxv ++ [vs])[i]? = _
  rw [Q9 hlt]
  exact h.boxes i hi2 hw
 ·show (G.boxes ++ [w.heap.size])[s.heap.length]? = _
  rw [h.heapLen]; simp
 ·show (if w.heap.size = w.heap.size then (some κ, 0) else _ : Option Kind × Nat).1 = _
  rw [if_pos rfl]
theorem gb {b : Nat} {κ : Kind} {vs : List Value} (hE : Ext G (G.newKind b κ vs)) (s' : St) (hw : s'.wr = s.wr) : Stays G (G.newKind b κ vs) s s' :=
 ⟨hE, [], hw, fun i hi _ => by show (G.boxv ++ [vs])[i]? = _; rw [Q9 hi]⟩
theorem kW {clock : Nat} {l : List AEnt} (h : ∀ e ∈ l, ∀ c ∈ e.cells, c.idOf = none) : ∀ c ∈ aJ clock l, c.idOf = none := by
 intro c hc
 unfold aJ at hc
 simp only [Rp, RT] at hc
 rcases hc with rfl | rfl | ⟨e, he, hc⟩
 ·rfl
 ·rfl
 ·unfold AEnt.avs at hc
  simp only [Rp] at hc
  rcases hc with rfl | rfl | hc
  ·rfl
  ·rfl
  ·exact h e he c hc
theorem fI {clock : Nat} {m : List Ent} (hk : ∀ x ∈ m, x.key.oneCell' = true) (hc : ∀ x ∈ m, ∀ u ∈ x.cells, u.oneCell' = true) : ∀ u ∈ cy clock m, u.oneCell' = true := by
 intro u hu
 unfold cy at hu
 simp only [Rp, RT] at hu
 rcases hu with rfl | rfl | ⟨x, hx, hu⟩
 ·rfl
 ·rfl
 ·unfold Ent.vals at hu
  simp only [Rp] at hu
  rcases hu with rfl | rfl | hu
  ·exact hk x hx
  ·rfl
  ·exact hc x hx u hu
theorem AE {n : Nat} {one : Bool} {x : AV} {v : Value} {cs : List AV} (h : Sees G x v) (hc : EK n one x = some cs) (hn : one = true -> n = 1) : ∃ us, SeesL G cs us /\ us.length = n /\ (∀ u ∈ us, u.oneCell' = true) /\ v = yL one us /\ ∀ c ∈ cs, c.idOf = none := by
 unfold EK at hc
 cases one with
 | true =>
  rw [if_pos rfl] at hc
  split at hc
  ·rename_i h1
   injection hc with hc; subst hc
   refine ⟨[v], SeesL.nil.cons h.unown, by rw [hn rfl]; rfl, fun u hu => ?_, rfl, fun c hc => ?_⟩
   ·rw [Rq.1 hu]; exact one_cell h h1
   ·rw [Rq.1 hc]; exact AV.idOf_unown _
  ·cases hc
 | false =>
  rw [if_neg (by simp)] at hc
  split at hc
  ·rename_i ds
   split at hc
   ·rename_i hl
    injection hc with hc; subst hc
    obtain ⟨us, rfl, h1, h2, h3⟩ := h.inv_agg
    have : SeesL G ds us := ⟨h1, h2⟩
    exact ⟨us, this.map_unown, by rw [h1, hl], h3, rfl, fun c hc => by obtain ⟨d, _, rfl⟩ := RA.1 hc; exact AV.idOf_unown d⟩
   ·cases hc
  ·cases hc
end
section
variable {P : Program} {C : Ctx} {N : Nat} {s : St} {Q : Exit -> Act -> World -> Prop}
theorem tt (o : Oper) (t : TypeId) (ho : o.op = .makeMap t none) (n : Nat) (one : Bool) (hf : ap N o = true) : OpS P C N s ({ s with heap := s.heap ++ [aJ 0 []] }.puts o.dst (.mp s.heap.length n one) false) o Q := fun G cls a w h => by
 have hr : (execOp a.eval o).run P w = .ok (.value (.map (some w.heap.size))) (w.alloc (.map #[] 0)) := by
  have := run_makeMap (P := P) (w := w) t
  simp only [execOp, ho, Option.map_none, Sem.run_bind, this, Result.andThen_ok, Sem.run_pure]
 unfold Oper.wp
 rw [hr]
 obtain ⟨h1, h2, h3, h4⟩ := h.newKind (.map n one) (cs := aJ 0 []) (vs := cy 0 []) (kY (m := []) trivial) (fI (fun x hx => by cases hx) (fun x hx => by cases hx)) (kW fun e he => by cases he) rfl
 have e : (Kind.map n one).obj (cy 0 []) = .map #[] 0 := rfl
 rw [e] at h1
 exact ⟨_, cls, h1.puts (an hf) (.mp _ _ _ _ h2 h3) (.none _ rfl) (fun _ => rfl), gb h4 _ (aO _ _ _ _)⟩
theorem put_cells {n : Nat} {k : Value} {clock : Nat} {us : List Value} {m : List Ent} (hu : us.length = n) (hm : ∀ x ∈ m, x.cells.length = n) : ∀ x ∈ (Ent.put k clock us m).1, x.cells.length = n := by
 intro x hx
 unfold Ent.put at hx
 split at hx
 ·rcases Rt hx with h | rfl
  ·exact hm x h
  ·exact hu
 ·rcases RF.1 hx with h | h
  ·exact hm x h
  ·rw [Rq.1 h]; exact hu
theorem xC {p : Ent -> Prop} {k : Value} {clock : Nat} {us : List Value} {m : List Ent} (hu : ∀ b, p ⟨k, b, us⟩) (hm : ∀ x ∈ m, p x) : ∀ x ∈ (Ent.put k clock us m).1, p x := by
 intro x hx
 unfold Ent.put at hx
 split at hx
 ·rcases Rt hx with h | rfl
  ·exact hm x h
  ·exact hu _
 ·rcases RF.1 hx with h | h
  ·exact hm x h
  ·rw [Rq.1 h]; exact hu _
theorem Ag {p : AEnt -> Prop} {k : Value} {clock : Nat} {us : List AV} {m : List AEnt} (hu : ∀ b, p ⟨k, b, us⟩) (hm : ∀ x ∈ m, p x) : ∀ x ∈ (AEnt.put k clock us m).1, p x := by
 intro x hx
 unfold AEnt.put at hx
 split at hx
 ·rcases Rt hx with h | rfl
  ·exact hm x h
  ·exact hu _
 ·rcases RF.1 hx with h | h
  ·exact hm x h
  ·rw [Rq.1 h]; exact hu _
theorem rQ {k : Value} {m : List Ent} : ∀ x ∈ Ent.del k m, x ∈ m := by
 intro x hx
 unfold Ent.del at hx
 split at hx
 ·exact RB hx
 ·exact hx
theorem Af {k : Value} {m : List AEnt} : ∀ x ∈ AEnt.del k m, x ∈ m := by
 intro x hx
 unfold AEnt.del at hx
 split at hx
 ·exact RB hx
 ·exact hx
theorem nI (o : Oper) (t : TypeId) (m k x : Operand) (ho : o.op = .mapUpdate t m k x \/ o.op = .insert t m k x) {M : MapT} (hM : jY P t = some M) (K : St -> List Nat -> Prop) (hx : il s M.ks M.n M.one o.dst (s.get m) (s.get k) (s.get x) K) (hf : ap N o = true) : ∃ s' l, K s' l /\ OpS P C N s s' o Q := by
 obtain ⟨kt, et, d, hT⟩ := eK hM
 unfold il at hx
 split at hx
 ·rename_i i n' one' kv hgm hgk
  obtain ⟨⟨e1, e2⟩, hkv, hx⟩ := hx
  subst e1 e2
  unfold ax at hx
  split at hx
  ·rename_i p hp
   obtain ⟨hks, hx⟩ := hx
   split at hx
   ·rename_i cs hcs
    refine ⟨_, _, hx, fun G cls a w h => ?_⟩
    have gm := h.get (am hf (show m ∈ o.op.operands.toList by rcases ho with ho | ho <;> rw [ho] <;> simp [Op.operands]))
    have gk := h.get (am hf (show k ∈ o.op.operands.toList by rcases ho with ho | ho <;> rw [ho] <;> simp [Op.operands]))
    have gx := h.get (am hf (show x ∈ o.op.operands.toList by rcases ho with ho | ho <;> rw [ho] <;> simp [Op.operands]))
    rw [hgm] at gm
    rw [hgk] at gk
    obtain ⟨b, ex, hb, hkb⟩ := gm.inv_mp
    have ek := gk.inv_v
    obtain ⟨hc, hn, l, hv, hm, hone, hkone, hw⟩ := h.mapHere hb hkb hp
    obtain ⟨us, hus, hul, hu1, hve, huid⟩ := AE gx hcs hT.n1
    have hheap := hw hT.pos G w (Ext.refl G) h.ok rfl
    have hkey := lL hm hks hT.key
    have hr := qe (P := P) hT.t hT.k (hT.key _ hkv) hheap hkey us
    obtain ⟨hput, hclk⟩ := hm.put kv p.1 hus
    have hcells := put_cells (k := kv) (clock := p.1) hul (hm.cells hn)
    have hobj := fH M.n M.one (AEnt.put kv p.1 cs p.2).2 (Ent.put kv p.1 us l).1 fun x hx => ⟨hcells x hx, hT.pos⟩
    have hrun : (execOp a.eval o).run P w = .ok .skip (w.putObj b ((Kind.map M.n M.one).obj (cy (AEnt.put kv p.1 cs p.2).2 (Ent.put kv p.1 us l).1))) := by
     rw [hobj, hclk]
     have hr' : (Instr.mapUpdate t (a.eval m) (a.eval k) (a.eval x)).run P w = .ok () (w.putObj b (.map ((Ent.put kv p.1 us l).1.map (Ent.entry M.one)).toArray (Ent.put kv p.1 us l).2)) := by
      rw [ex, ek, hve]; exact hr
     rcases ho with ho | ho <;> simp only [execOp, ho, Sem.run_bind, hr', Result.andThen_ok, Sem.run_pure]
    unfold Oper.wp
    rw [hrun]
    have hidl : ∀ e ∈ p.2, ∀ c ∈ e.cells, c.idOf = none := fun e he => (hks e he).2
    obtain ⟨hR, hS⟩ := h.turnBox hb hkb hv (kY hput) (fI (xC (fun b => DG hkv) hkone) (xC (fun b => hu1) hone)) (kW (Ag (p := fun e => ∀ c ∈ e.cells, c.idOf = none) (fun b => huid) hidl)) rfl
    exact ⟨_, cls, hR.puts (an hf) (.any _) trivial (fun _ => rfl), hS.wr_eq (aO _ _ _ _)⟩
   ·exact hx.elim
  ·exact hx.elim
 ·exact hx.elim
theorem vm (o : Oper) (t : TypeId) (m k : Operand) (ts : List TypeId) (ho : o.op = .call { callee := .builtin .delete, args := #[m, k], argTypes := (t :: ts).toArray }) {M : MapT} (hM : jY P t = some M) (K : St -> List Nat -> Prop) (hx : ij s M.ks M.n M.one o.dst (s.get m) (s.get k) K) (hf : ap N o = true) : ∃ s' l, K s' l /\ OpS P C N s s' o Q := by
 obtain ⟨kt, et, d, hT⟩ := eK hM
 have hts : (t :: ts).toArray[0]? = some t := by simp
 unfold ij at hx
 split at hx
 ·rename_i kv hgm hgk
  obtain ⟨hkv, hx⟩ := hx
  refine ⟨_, _, hx, fun G cls a w h => ?_⟩
  have gm := h.get (am hf (show m ∈ o.op.operands.toList by rw [ho]; simp [Op.operands, Call.operands]))
  have gk := h.get (am hf (show k ∈ o.op.operands.toList by rw [ho]; simp [Op.operands, Call.operands]))
  rw [hgm] at gm
  rw [hgk] at gk
  have ex := gm.inv_v
  have ek := gk.inv_v
  have hck := run_checkKey (P := P) (w := w) hT.k (hT.key _ hkv) true
  have e0 : (#[Value.map none, kv] : Array Value)[0]? = some (.map none) := rfl
  have e1 : (#[Value.map none, kv] : Array Value)[1]? = some kv := rfl
  have hr : (Builtin.delete_ (t :: ts).toArray o.type #[.map none, kv]).run P w = .ok (.tuple #[]) w := by
   unfold Builtin.delete_
   simp only [hts, e0, e1, Sem.run_bind, run_underlying hT.t, Result.andThen_ok, hck, Sem.run_pure]
  have hrun : (execOp a.eval o).run P w = .ok (.value (.tuple #[])) w := by
   simp only [execOp, ho, resolve, invoke, builtin, Sem.run_bind, Sem.run_pure, Result.andThen_ok, RC, R3]
   simp only [Ry, RQ, ex, ek, hr, Result.andThen_ok]
  unfold Oper.wp
  rw [hrun]
  exact ⟨G, cls, h.puts (an hf) (.any _) trivial (fun _ => rfl), Stays.same (aO _ _ _ _)⟩
 ·rename_i i n' one' kv hgm hgk
  obtain ⟨⟨e1, e2⟩, hkv, hx⟩ := hx
  subst e1 e2
  unfold ax at hx
  split at hx
  ·rename_i p hp
   obtain ⟨hks, hx⟩ := hx
   refine ⟨_, _, hx, fun G cls a w h => ?_⟩
   have gm := h.get (am hf (show m ∈ o.op.operands.toList by rw [ho]; simp [Op.operands, Call.operands]))
   have gk := h.get (am hf (show k ∈ o.op.operands.toList by rw [ho]; simp [Op.operands, Call.operands]))
   rw [hgm] at gm
   rw [hgk] at gk
   obtain ⟨b, ex, hb, hkb⟩ := gm.inv_mp
   have ek := gk.inv_v
   obtain ⟨hc, hn, l, hv, hm, hone, hkone, hw⟩ := h.mapHere hb hkb hp
   have hheap := hw hT.pos G w (Ext.refl G) h.ok rfl
   have hkey := lL hm hks hT.key
   have hr := wj (P := P) hT.t hT.k (hT.key _ hkv) hheap hkey (t :: ts).toArray hts o.type
   have hdel := hm.del kv
   have hobj := fH M.n M.one p.1 (Ent.del kv l) fun x hx => ⟨hm.cells hn x (rQ x hx), hT.pos⟩
   have hrun : (execOp a.eval o).run P w = .ok (.value (.tuple #[])) (w.putObj b ((Kind.map M.n M.one).obj (cy p.1 (Ent.del kv l)))) := by
    rw [hobj]
    simp only [execOp, ho, resolve, invoke, builtin, Sem.run_bind, Sem.run_pure, Result.andThen_ok, RC, R3]
    simp only [Ry, RQ, ex, ek, hr, Result.andThen_ok]
   unfold Oper.wp
   rw [hrun]
   obtain ⟨hR, hS⟩ := h.turnBox hb hkb hv (kY hdel) (fI (fun x hx => hkone x (rQ x hx)) (fun x hx => hone x (rQ x hx))) (kW fun e he => (hks e (Af e he)).2) rfl
   exact ⟨_, cls, hR.puts (an hf) (.any _) trivial (fun _ => rfl), hS.wr_eq (aO _ _ _ _)⟩
  ·exact hx.elim
 ·exact hx.elim
theorem qd {w : World} {t kt et : TypeId} (ht : P.underlying t = some (.map kt et)) {b : Nat} {es : Array MapEntry} {c : Nat} (hb : w.heap[b]? = some (.map es c)) (ty : TypeId) : (Builtin.clear_ #[t] ty #[.map (some b)]).run P w = .ok (.tuple #[]) (w.putObj b (.map #[] c)) := by
 have hg : (getObj b).run P w = .ok (.map es c) w := by simp [getObj, Sem.run, hb]
 have hs : ∀ o, (setObj b o).run P w = .ok () (w.putObj b o) := fun o => by simp [setObj, Sem.run, hb, World.putObj]
 have e0 : (#[t] : Array TypeId)[0]? = some t := rfl
 have e1 : (#[Value.map (some b)] : Array Value)[0]? = some (.map (some b)) := rfl
 unfold Builtin.clear_
 simp only [e0, e1, Sem.run_bind, run_underlying ht, Result.andThen_ok, hg, hs, Sem.run_pure]
theorem vk (o : Oper) (t : TypeId) (m : Operand) (ho : o.op = .call { callee := .builtin .clear, args := #[m], argTypes := #[t] }) {M : MapT} (hM : jY P t = some M) (K : St -> List Nat -> Prop) (hx : ii s M.n M.one o.dst (s.get m) K) (hf : ap N o = true) : ∃ s' l, K s' l /\ OpS P C N s s' o Q := by
 obtain ⟨kt, et, d, hT⟩ := eK hM
 unfold ii at hx
 split at hx
 ·rename_i hgm
  refine ⟨_, _, hx, fun G cls a w h => ?_⟩
  have gm := h.get (am hf (show m ∈ o.op.operands.toList by rw [ho]; simp [Op.operands, Call.operands]))
  rw [hgm] at gm
  have ex := gm.inv_v
  have hr : (Builtin.clear_ #[t] o.type #[.map none]).run P w = .ok (.tuple #[]) w := by
   simp [Builtin.clear_, run_underlying hT.t]
  have hrun : (execOp a.eval o).run P w = .ok (.value (.tuple #[])) w := by
   simp [execOp, ho, resolve, invoke, builtin, ex, hr]
  unfold Oper.wp
  rw [hrun]
  exact ⟨G, cls, h.puts (an hf) (.any _) trivial (fun _ => rfl), Stays.same (aO _ _ _ _)⟩
 ·rename_i i n' one' hgm
  obtain ⟨⟨e1, e2⟩, hx⟩ := hx
  subst e1 e2
  unfold ax at hx
  split at hx
  ·rename_i p hp
   refine ⟨_, _, hx, fun G cls a w h => ?_⟩
   have gm := h.get (am hf (show m ∈ o.op.operands.toList by rw [ho]; simp [Op.operands, Call.operands]))
   rw [hgm] at gm
   obtain ⟨b, ex, hb, hkb⟩ := gm.inv_mp
   obtain ⟨hc, hn, l, hv, hm, hone, hkone, hw⟩ := h.mapHere hb hkb hp
   have hheap := hw hT.pos G w (Ext.refl G) h.ok rfl
   have hr := qd (P := P) hT.t hheap o.type
   have hobj := fH M.n M.one p.1 ([] : List Ent) (fun x hx => by cases hx)
   have hrun : (execOp a.eval o).run P w = .ok (.value (.tuple #[])) (w.putObj b ((Kind.map M.n M.one).obj (cy p.1 []))) := by
    rw [hobj]
    simp [execOp, ho, resolve, invoke, builtin, ex, hr]
   unfold Oper.wp
   rw [hrun]
   have hnil : EntsS G [] [] := trivial
   obtain ⟨hR, hS⟩ := h.turnBox hb hkb hv (kY hnil) (fI (fun x hx => by cases hx) (fun x hx => by cases hx)) (kW fun e he => by cases he) rfl
   exact ⟨_, cls, hR.puts (an hf) (.any _) trivial (fun _ => rfl), hS.wr_eq (aO _ _ _ _)⟩
  ·exact hx.elim
 ·exact hx.elim
theorem vn (o : Oper) (t : TypeId) (x : Operand) (ho : o.op = .range t x) {M : MapT} (hM : jY P t = some M) (K : St -> List Nat -> Prop) (hx : io s M.n M.one o.dst (s.get x) K) (hf : ap N o = true) : ∃ s' l, K s' l /\ OpS P C N s s' o Q := by
 obtain ⟨kt, et, d, hT⟩ := eK hM
 unfold io at hx
 split at hx
 ·rename_i hgx
  refine ⟨_, _, hx, fun G cls a w h => ?_⟩
  have gx := h.get (am hf (show x ∈ o.op.operands.toList by rw [ho]; simp [Op.operands]))
  rw [hgx] at gx
  have ex := gx.inv_v
  obtain ⟨h1, h2, h3, h4⟩ := h.newKind (.iter none) (cs := nS 0 0 []) (vs := ef 0 0 []) (nf 0 0 []) (fg 0 0 []) (vJ 0 0 []) rfl
  have hrun : (execOp a.eval o).run P w = .ok (.value (.pointer (some ⟨w.heap.size, 0, none⟩))) (w.alloc ((Kind.iter none).obj (ef 0 0 []))) := by
   have := run_range_nilMap (P := P) w t kt et hT.t
   simp only [execOp, ho, ex, Sem.run_bind, this, Result.andThen_ok, Sem.run_pure]
   rfl
  unfold Oper.wp
  rw [hrun]
  exact ⟨_, cls, h1.puts (an hf) (.itr _ _ _ _ none none h2 h3 rfl) (.none _ rfl) (fun _ => rfl), gb h4 _ (aO _ _ _ _)⟩
 ·rename_i i n' one' hgx
  obtain ⟨⟨e1, e2⟩, hx⟩ := hx
  subst e1 e2
  unfold ax at hx
  split at hx
  ·rename_i p hp
   refine ⟨_, _, hx, fun G cls a w h => ?_⟩
   have gx := h.get (am hf (show x ∈ o.op.operands.toList by rw [ho]; simp [Op.operands]))
   rw [hgx] at gx
   obtain ⟨b, ex, hb, hkb⟩ := gx.inv_mp
   obtain ⟨hc, hn, l, hv, hm, hone, hkone, hw⟩ := h.mapHere hb hkb hp
   have hheap := hw hT.pos G w (Ext.refl G) h.ok rfl
   obtain ⟨h1, h2, h3, h4⟩ := h.newKind (.iter (some b)) (cs := nS p.1 p.1 []) (vs := ef p.1 p.1 []) (nf _ _ _) (fg _ _ _) (vJ _ _ _) rfl
   have hrun : (execOp a.eval o).run P w = .ok (.value (.pointer (some ⟨w.heap.size, 0, none⟩))) (w.alloc ((Kind.iter (some b)).obj (ef p.1 p.1 []))) := by
    have := run_range_map (P := P) w t kt et b _ p.1 hT.t hheap
    rw [jU]
    simp only [execOp, ho, ex, Sem.run_bind, this, Result.andThen_ok, Sem.run_pure]
   unfold Oper.wp
   rw [hrun]
   exact ⟨_, cls, h1.puts (an hf) (.itr _ _ _ _ _ (some b) h2 h3 ⟨b, rfl, h4.box_at hb, (h4.kindsE hb).trans hkb⟩) (.none _ rfl) (fun _ => rfl), gb h4 _ (aO _ _ _ _)⟩
  ·exact hx.elim
 ·exact hx.elim
theorem A2 (mb : Option Nat) (vs : List Value) : ∀ κ : Kind, κ = .iter mb -> ∃ st sn ls, κ.obj vs = .mapIter mb st sn ls := by
 intro κ h
 unfold Kind.obj
 split <;> first | (injection h with h; subst h; exact ⟨_, _, _, rfl⟩) | cases h
theorem AD (o : Oper) (x : Operand) (ho : o.op = .next x false) (K : St -> Prop) (hx : mP s o.dst (s.get x) K) (hf : ap N o = true) {G : Ghost} {cls : Nat -> Id} {a : Act} {w : World} (h : Rel C N G cls s a w) :
  o.wp P a w (fun a' w' => ∃ s' G' cls', K s' /\ Rel C N G' cls' s' a' w') Q := by
 have gx := h.get (am hf (show x ∈ o.op.operands.toList by rw [ho]; simp [Op.operands]))
 unfold mP at hx
 split at hx
 ·rename_i j n one hgx
  rw [hgx] at gx
  obtain ⟨b, mb, ex, hb, hkb, hmb⟩ := gx.inv_itr
  subst hmb
  have hlt : j < s.heap.length := by rw [h.heapLen]; exact (Q7.1 hb).1
  obtain ⟨vs, hv, _, _⟩ := h.boxVals (Q8 hlt)
  have hheap := (h.ok.obj.kbox j b vs _ hb hv hkb).1
  obtain ⟨st, sn, ls, hobj⟩ := A2 none vs _ rfl
  rw [hobj] at hheap
  have hg : (getObj b).run P w = .ok (.mapIter none st sn ls) w := by simp [getObj, Sem.run, hheap]
  have hrun : (execOp a.eval o).run P w = .ok (.value (.tuple #[.bool false])) w := by
   have : (Instr.next (.pointer (some ⟨b, 0, none⟩)) false o.type).run P w = .ok (.tuple #[.bool false]) w := by
    unfold Instr.next
    simp only [Sem.run_bind, hg, Result.andThen_ok, Sem.run_pure]
   simp only [execOp, ho, ex, Sem.run_bind, this, Result.andThen_ok, Sem.run_pure]
  unfold Oper.wp
  rw [hrun]
  exact ⟨_, G, cls, hx, h.puts (an hf) (.tup _ [_] rfl (SeesL.cons (.v _) SeesL.nil).2) (.none _ rfl) (fun _ => rfl)⟩
 ·rename_i j i n one hgx
  rw [hgx] at gx
  obtain ⟨b, mb, ex, hb, hkb, b', rfl, hb', hkb'⟩ := gx.inv_itr
  unfold ax at hx
  split at hx
  ·rename_i q hq
   split at hx
   ·rename_i p hp
    obtain ⟨hpos, eX, hsc, hover, hon⟩ := hx
    obtain ⟨hci, hvi, hwi⟩ := h.itHere hb hkb hq
    obtain ⟨hc, hn, l, hv, hm, hone, hkone, hw⟩ := h.mapHere hb' hkb' hp
    have w1 := hwi G w (Ext.refl G) h.ok rfl
    have w2 := hw hpos G w (Ext.refl G) h.ok rfl
    have hold2 : ∀ y ∈ (l.map (Ent.entry one)).toArray.toList, y.born < q.1 := fun y hy => by
     simp only [RA] at hy
     obtain ⟨z, hz, rfl⟩ := hy
     obtain ⟨e, he, h1⟩ := hm.mem z hz
     show z.born < _
     rw [h1.2.1]; exact eX e he
    have left_mem : ∀ y, y ∈ (leftOf (l.map (Ent.entry one)).toArray q.2.2.toArray).toList ↔ ∃ z ∈ l, z.entry one = y /\ z.born ∉ q.2.2 := fun y => by
     unfold leftOf
     simp only [Array.toList_filter, List.mem_filter, RA]
     constructor
     ·rintro ⟨⟨z, hz, rfl⟩, h2⟩
      refine ⟨z, hz, rfl, ?_⟩
      have : (Ent.entry one z).born = z.born := rfl
      rw [this] at h2
      simpa using h2
     ·rintro ⟨z, hz, rfl, h2⟩
      refine ⟨⟨z, hz, rfl⟩, ?_⟩
      have : (Ent.entry one z).born = z.born := rfl
      rw [this]
      simpa using h2
    rcases run_next_at (P := P) w o.type b b' q.1 q.2.1 q.2.2.toArray _ p.1 w1 w2 hold2 hsc with ⟨h0, hr⟩ | ⟨y, hy, w0, hw0, hr⟩
    ·have hrun : (execOp a.eval o).run P w = .ok (.value (.tuple #[.bool false])) w := by
      simp only [execOp, ho, ex, Sem.run_bind, hr, Result.andThen_ok, Sem.run_pure]
     unfold Oper.wp
     rw [hrun]
     refine ⟨_, G, cls, hover fun e he => ?_, h.puts (an hf) (.tup _ [_] rfl (SeesL.cons (.v _) SeesL.nil).2) (.none _ rfl) (fun _ => rfl)⟩
     obtain ⟨z, hz, h1⟩ := hm.mem' e he
     by_cases hin : e.born ∈ q.2.2
     ·exact hin
     ·exfalso
      have hz2 := (left_mem _).2 ⟨z, hz, rfl, by rw [h1.2.1]; exact hin⟩
      have he0 : leftOf (l.map (Ent.entry one)).toArray q.2.2.toArray = #[] := Array.eq_empty_of_size_eq_zero h0
      rw [he0] at hz2
      cases hz2
    ·obtain ⟨z, hz, rfl, hzn⟩ := (left_mem y).1 hy
     obtain ⟨e, he, h1⟩ := hm.mem z hz
     have hwb : WorldOk G w0 /\ Rel C N G cls s a w0 := by
      rcases hw0 with rfl | rfl
      ·exact ⟨h.ok, h⟩
      ·exact ⟨h.ok.drew, h.drew⟩
     have hset : ∀ o' : Obj, Go.ChangeMaps.setBlock w0 b o' = w0.putObj b o' := fun _ => rfl
     have hzb : (Ent.entry one z).born = e.born := h1.2.1
     have hpush : q.2.2.toArray.push e.born = (q.2.2 ++ [e.born]).toArray := by simp
     have hrun : (execOp a.eval o).run P w = .ok (.value (.tuple #[.bool true, z.key, (z.entry one).val])) (w0.putObj b ((Kind.iter (some b')).obj (ef q.1 p.1 (q.2.2 ++ [e.born])))) := by
      rw [jU, <- hpush, <- hzb, <- hset]
      simp only [execOp, ho, ex, Sem.run_bind, hr, Result.andThen_ok, Sem.run_pure]
      rfl
     unfold Oper.wp
     rw [hrun]
     obtain ⟨hR, hS⟩ := hwb.2.turnBox hb hkb hvi (nf q.1 p.1 (q.2.2 ++ [e.born])) (fg _ _ _) (vJ _ _ _) rfl
     refine ⟨_, _, cls, hon e he (by rw [<- h1.2.1]; exact hzn), hR.puts (an hf) ?_ (.none _ rfl) (fun _ => rfl)⟩
     exact .tup _ [_, _, _] rfl (SeesL.cons (.v _) (SeesL.cons (by rw [h1.1]; exact .v _) (SeesL.cons ((pe one h1.2.2 (hone z hz)).ext hS.ext) SeesL.nil))).2
   ·exact hx.elim
  ·exact hx.elim
 ·exact hx.elim
end
section
variable {P : Program} {C : Ctx} {N : Nat} {s : St} {Q : Exit -> Act -> World -> Prop}
theorem Ez {d : Option Nat} {x : XOp} (hv : x.isVal = true) (K : St -> List Nat -> Prop) : aC P d x s K = ((bH s x).ok /\ K (s.puts d (bH s x).val (bH s x).own) (bH s x).ld) := by
 cases x <;> first | rfl | cases hv
theorem mc (o : Oper) (x : XOp) (hc : CG P o.op = some x) (hf : ap N o = true) (K : St -> List Nat -> Prop) (hx : aC P o.dst x s K) : ∃ s' l, K s' l /\ OpS P C N s s' o Q := by
 by_cases hv : x.isVal = true
 ·rw [Ez hv] at hx
  exact ⟨_, _, hx.2, Df o x hc hv hf hx.1⟩
 ·cases ho : o.op with
  | assign y =>
   rw [ho] at hc; injection hc with hc; subst hc
   unfold aC at hx
   dsimp only at hx
   cases hd : o.dst with
   | none => rw [hd] at hx; exact hx.elim
   | some d => rw [hd] at hx; exact ⟨_, _, hx, nG o y ho d hd hf⟩
  | alloc t =>
   rw [ho] at hc
   replace hc : (ce P t).map (fun z => XOp.alloc (z.map cf)) = some x := hc
   cases hz : ce P t with
   | none => rw [hz] at hc; cases hc
   | some z => rw [hz] at hc; injection hc with hc; subst hc; exact ⟨_, _, hx, yE o t z ho hz hf⟩
  | box t y =>
   rw [ho] at hc; injection hc with hc; subst hc
   unfold aC at hx
   dsimp only at hx
   unfold ax at hx
   split at hx
   ·rename_i l hl
    exact ⟨_, _, hx, Dd o t y l ho hl hf⟩
   ·exact hx.elim
  | buildSlice t len parts =>
   rw [ho] at hc
   replace hc : br P t len parts = some x := hc
   unfold br at hc
   split at hc
   ·rename_i e k he
    split at hc
    ·rename_i z hz
     split at hc
     ·rename_i hcond
      injection hc with hc
      subst hc
      unfold aC at hx
      dsimp only at hx
      unfold ax at hx
      split at hx
      ·rename_i cs hcs
       exact ⟨_, _, hx, nH o t e k len z parts ho he hz hcond.1 hcond.2.1 hcond.2.2 cs hcs hf⟩
      ·exact hx.elim
     ·split at hc
      ·rename_i hcond
       injection hc with hc
       subst hc
       obtain ⟨rfl, hpe⟩ := hcond
       exact ⟨_, _, hx, vl o t e k parts ho hpe he hf⟩
      ·cases hc
    ·cases hc
   ·cases hc
  | store t p y =>
   rw [ho] at hc
   replace hc : (cz P t).map (fun n => XOp.store n p y) = some x := hc
   cases hn : cz P t with
   | none => rw [hn] at hc; cases hc
   | some n =>
    rw [hn] at hc; injection hc with hc; subst hc
    unfold aC at hx
    dsimp only at hx
    unfold ax at hx
    split at hx
    ·rename_i s' hs'
     exact ⟨_, _, hx, yJ o t n p y s' ho hn hs' hf⟩
    ·exact hx.elim
  | call c =>
   rw [ho] at hc
   have hc' : fx P c = some x := hc
   unfold fx at hc'
   split at hc'
   ·rename_i f hcal
    injection hc' with hc'; subst hc'
    have e : o.op = .call { callee := .value (.func f), args := c.args, argTypes := c.argTypes } := by
     rw [ho]; obtain ⟨cal, args, ts⟩ := c; simp only at hcal; subst hcal; rfl
    exact AC o f c.args c.argTypes e K hx hf
   ·rename_i y hny hcal
    injection hc' with hc'; subst hc'
    have e : o.op = .call { callee := .value y, args := c.args, argTypes := c.argTypes } := by
     rw [ho]; obtain ⟨cal, args, ts⟩ := c; simp only at hcal; subst hcal; rfl
    unfold aC kG at hx
    dsimp only at hx
    split at hx
    ·rename_i f first cap hg
     exact yF o y c.args c.argTypes (fun f hf => hny f hf) e f first cap hg K hx.2 hx.1 hf
    ·exact hx.elim
   ·exfalso
    split at hc'
    ·unfold nC at hc'
     split at hc'
     ·injection hc' with hc'; subst hc'; exact hv rfl
     ·injection hc' with hc'; subst hc'; exact hv rfl
     ·split at hc'
      ·injection hc' with hc'; subst hc'; exact hv rfl
      ·cases hc'
     ·cases hc'
    ·cases hc'
   ·rename_i hcal
    split at hc'
    ·rename_i y z t ts hargs hts
     have e : o.op = .call { callee := .builtin .delete, args := #[y, z], argTypes := (t :: ts).toArray } := by
      rw [ho]
      obtain ⟨cal, args, ts'⟩ := c
      congr 1
      simp only at hcal hargs hts
      subst hcal
      rw [<- Ri (xs := args), hargs, <- Ri (xs := ts'), hts]
     unfold nB at hc'
     split at hc'
     ·rename_i M hM
      injection hc' with hc'; subst hc'
      exact vm o t y z ts e hM K hx hf
     ·cases hc'
    ·cases hc'
   ·rename_i hcal
    split at hc'
    ·rename_i y t hargs hts
     have e : o.op = .call { callee := .builtin .clear, args := #[y], argTypes := #[t] } := by
      rw [ho]
      obtain ⟨cal, args, ts'⟩ := c
      congr 1
      simp only at hcal hargs hts
      subst hcal
      rw [<- Ri (xs := args), hargs, <- Ri (xs := ts'), hts]
     unfold iH at hc'
     split at hc'
     ·rename_i el k he
      split at hc'
      ·rename_i z0 hz
       split at hc'
       ·rename_i hk1
        injection hc' with hc'; subst hc'
        obtain ⟨rfl, hk2⟩ := hk1
        exact yG o t el z0 y e he hz hk2 hf hx
       ·cases hc'
      ·cases hc'
     ·split at hc'
      ·rename_i M hM
       injection hc' with hc'; subst hc'
       exact vk o t y e hM K hx hf
      ·cases hc'
    ·cases hc'
   ·exfalso; injection hc' with hc'; subst hc'; exact hv rfl
   ·exfalso; injection hc' with hc'; subst hc'; exact hv rfl
   ·rename_i hcal
    split at hc'
    ·rename_i y z t u hargs hts
     have e : o.op = .call { callee := .builtin .append, args := #[y, z], argTypes := #[t, u] } := by
      rw [ho]
      obtain ⟨cal, args, ts⟩ := c
      congr 1
      simp only at hcal hargs hts
      subst hcal
      rw [<- Ri (xs := args), hargs, <- Ri (xs := ts), hts]
     unfold gr at hc'
     split at hc'
     ·rename_i el k he
      split at hc'
      ·rename_i zz i hz hi
       split at hc'
       ·rename_i hzk
        split at hc'
        ·rename_i e' hu
         injection hc' with hc'
         have one : ∀ K, bA s k i.bytes o.dst (s.get y) (s.get z) K -> ∃ s' l, K s' l /\ OpS P C N s s' o Q := fun K hx => to o t u el e' k i zz y z e he hz hzk hi hu hf hx
         split at hc'
         ·rename_i hcn
          have hny := tP hcn.2
          subst hny
          subst hc'
          rcases hx with hx | hx
          ·exact one _ hx
          ·unfold ig at hx
           split at hx
           ·rename_i k2 es2 nul2 room2 hz2
            obtain ⟨h1, h2, h3, h4, h5, h6⟩ := hx
            subst h1
            exact ⟨_, _, h6, pV o t u el e' k2 i zz z e he hz hzk hi hu es2 nul2 room2 hz2 h2 h3 h4 h5 hf⟩
           ·exact hx.elim
         ·subst hc'
          exact one _ hx
        ·rename_i hu
         split at hc'
         ·rename_i hcond
          obtain ⟨rfl, hb1⟩ := hcond
          injection hc' with hc'; subst hc'
          unfold aC gI at hx
          dsimp only at hx
          split at hx
          ·rename_i d k1 es nul room b hd hy hz2
           obtain ⟨h1, h2, h3⟩ := hx
           exact ⟨_, _, h3, tq o t u el d i zz y z e hd he hz hzk hi hb1 hu k1 es nul room b hy hz2 h1 h2 hf⟩
          ·exact hx.elim
         ·cases hc'
        ·cases hc'
       ·cases hc'
      ·cases hc'
     ·cases hc'
    ·cases hc'
   ·cases hc'
  | lookup t y k c =>
   exfalso
   rw [ho] at hc
   replace hc : cQ P t y k c = some x := hc
   unfold cQ at hc
   split at hc
   ·injection hc with hc; subst hc; exact hv rfl
   ·cases hc
  | entry y => rw [ho] at hc; injection hc with hc; subst hc; exact absurd rfl hv
  | makeMap t r =>
   rw [ho] at hc
   replace hc : fz P t r = some x := hc
   unfold fz at hc
   split at hc
   ·injection hc with hc; subst hc
    exact ⟨_, _, hx, tt o t ho _ _ hf⟩
   ·cases hc
  | mapUpdate t m k y =>
   rw [ho] at hc
   replace hc : cO P t m k y = some x := hc
   unfold cO at hc
   split at hc
   ·rename_i M hM
    injection hc with hc; subst hc
    exact nI o t m k y (.inl ho) hM K hx hf
   ·cases hc
  | insert t m k y =>
   rw [ho] at hc
   replace hc : cO P t m k y = some x := hc
   unfold cO at hc
   split at hc
   ·rename_i M hM
    injection hc with hc; subst hc
    exact nI o t m k y (.inr ho) hM K hx hf
   ·cases hc
  | makeSlice t l y =>
   rw [ho] at hc
   replace hc : dQ P t l y = some x := hc
   unfold dQ at hc
   split at hc
   ·rename_i e k he
    split at hc
    ·rename_i z i hz hi
     split at hc
     ·rename_i hik
      injection hc with hc; subst hc
      unfold aC sO at hx
      dsimp only at hx
      split at hx
      ·rename_i d n hd hn
       exact ⟨_, _, hx.2.2.2, yI o t e k d i z _ y n ho hd he hz hi hik rfl hn hx.1 hx.2.1 hx.2.2.1 hf⟩
      ·exact hx.elim
     ·cases hc
    ·rename_i z i u hz hi
     split at hc
     ·rename_i hik
      injection hc with hc; subst hc
      unfold aC sN at hx
      dsimp only at hx
      split at hx
      ·rename_i n hn
       exact ⟨_, _, hx.2.2.2, yH o t e k i z _ y n ho he hz hi hik.1.1 hik.1.2 u rfl hik.2 hn hx.1 hx.2.1 hx.2.2.1 hf⟩
      ·exact hx.elim
     ·cases hc
    ·cases hc
   ·cases hc
  | range t y =>
   rw [ho] at hc
   replace hc : dR P t y = some x := hc
   unfold dR at hc
   split at hc
   ·rename_i M hM
    injection hc with hc; subst hc
    exact vn o t y ho hM K hx hf
   ·cases hc
  | move y => rw [ho] at hc; injection hc with hc; subst hc; exact absurd rfl hv
  | pick c y z => rw [ho] at hc; injection hc with hc; subst hc; exact absurd rfl hv
  | nilCheck y => rw [ho] at hc; injection hc with hc; subst hc; exact absurd rfl hv
  | unOp op t y => rw [ho] at hc; injection hc with hc; subst hc; exact absurd rfl hv
  | makeFunc f y z => rw [ho] at hc; injection hc with hc; subst hc; exact absurd rfl hv
  | extract y i => rw [ho] at hc; injection hc with hc; subst hc; exact absurd rfl hv
  | build t parts =>
   exfalso
   rw [ho] at hc
   replace hc : dN P t parts = some x := hc
   revert hc
   unfold dN
   repeat' split
   all_goals first | (intro hc; cases hc; done) | (intro hc; injection hc with hc; subst hc; exact hv rfl)
  | load t y =>
   exfalso
   rw [ho] at hc
   replace hc : cK P t y = some x := hc
   revert hc
   unfold cK Option.map
   repeat' split
   all_goals first | (intro hc; cases hc; done) | (intro hc; injection hc with hc; subst hc; exact hv rfl)
  | binOp op t y z u =>
   exfalso
   rw [ho] at hc
   replace hc : iG P op t y z = some x := hc
   revert hc
   unfold iG jQ
   repeat' split
   all_goals first | (intro hc; cases hc; done) | (intro hc; injection hc with hc; subst hc; exact hv rfl)
  | convert t u y =>
   rw [ho] at hc
   replace hc : fy P t u y = some x := hc
   unfold fy at hc
   split at hc
   ·exfalso; injection hc with hc; subst hc; exact hv rfl
   ·exfalso; injection hc with hc; subst hc; exact hv rfl
   ·exfalso
    split at hc
    ·injection hc with hc; subst hc; exact hv rfl
    ·cases hc
   ·rename_i e ht hu
    split at hc
    ·rename_i he
     injection hc with hc; subst hc
     unfold aC zX at hx
     dsimp only at hx
     split at hx
     ·rename_i b hb
      exact ⟨_, _, hx.2, De o t u e y ho ht hu he b hb hx.1 hf⟩
     ·exact hx.elim
    ·cases hc
   ·cases hc
  | slice t y lo hi mx =>
   exfalso
   rw [ho] at hc
   replace hc : dS P t y lo hi mx = some x := hc
   revert hc
   unfold dS
   repeat' split
   all_goals first | (intro hc; cases hc; done) | (intro hc; injection hc with hc; subst hc; exact hv rfl)
  | fieldAddr t y n =>
   exfalso
   rw [ho] at hc
   replace hc : dO P t y n = some x := hc
   revert hc
   unfold dO
   repeat' split
   all_goals first | (intro hc; cases hc; done) | (intro hc; injection hc with hc; subst hc; exact hv rfl)
  | makeInterface t y =>
   exfalso
   rw [ho] at hc
   replace hc : tj P t y = some x := hc
   revert hc
   unfold tj
   repeat' split
   all_goals first | (intro hc; cases hc; done) | (intro hc; injection hc with hc; subst hc; exact hv rfl)
  | field t y n =>
   exfalso
   rw [ho] at hc
   replace hc : iI P t y n = some x := hc
   revert hc
   unfold iI Option.map
   repeat' split
   all_goals first | (intro hc; cases hc; done) | (intro hc; injection hc with hc; subst hc; exact hv rfl)
  | index t y i =>
   exfalso
   rw [ho] at hc
   replace hc : (match P.underlying t with
   | some .string => some (XOp.idxS y i)
   | _ => none) = some x := hc
   revert hc
   skip
   repeat' split
   all_goals first | (intro hc; cases hc; done) | (intro hc; injection hc with hc; subst hc; exact hv rfl)
  | indexAddr t y i =>
   exfalso
   rw [ho] at hc
   replace hc : (cc P t).map (fun p => XOp.iaddr p.2 y i) = some x := hc
   revert hc
   unfold Option.map
   repeat' split
   all_goals first | (intro hc; cases hc; done) | (intro hc; injection hc with hc; subst hc; exact hv rfl)
  | _ => rw [ho] at hc; cases hc
theorem yB {op : Op} {y : Operand} {args : List Operand} (h : CG P op = some (.callv y args)) : ∃ (zs : Array Operand) (ts : Array TypeId), op = .call { callee := .value y, args := zs, argTypes := ts } /\ args = zs.toList := by
 cases op with
 | call c =>
  replace h : fx P c = some (.callv y args) := h
  obtain ⟨callee, zs, ts⟩ := c
  unfold fx at h
  dsimp only at h
  split at h
  ·cases h
  ·injection h with h; injection h with h1 h2; subst h1 h2; exact ⟨zs, ts, rfl, rfl⟩
  ·split at h
   ·unfold nC at h; repeat' split at h
    all_goals cases h
   ·cases h
  ·split at h
   ·unfold nB at h; repeat' split at h
    all_goals cases h
   ·cases h
  ·split at h
   ·unfold iH at h; repeat' split at h
    all_goals cases h
   ·cases h
  ·cases h
  ·cases h
  ·split at h
   ·unfold gr at h; repeat' split at h
    all_goals cases h
   ·cases h
  ·cases h
 | lookup t x k c =>
  exfalso
  replace h : cQ P t x k c = some (XOp.callv y args) := h
  revert h
  unfold cQ
  repeat' split
  all_goals first | (intro h; cases h; done) | (intro h; injection h with h; cases h)
 | makeMap t r =>
  exfalso
  replace h : fz P t r = some (XOp.callv y args) := h
  revert h
  unfold fz
  repeat' split
  all_goals first | (intro h; cases h; done) | (intro h; injection h with h; cases h)
 | makeSlice t l c =>
  exfalso
  replace h : dQ P t l c = some (XOp.callv y args) := h
  revert h
  unfold dQ
  repeat' split
  all_goals first | (intro h; cases h; done) | (intro h; injection h with h; cases h)
 | mapUpdate t m k x =>
  exfalso
  replace h : cO P t m k x = some (XOp.callv y args) := h
  revert h
  unfold cO
  repeat' split
  all_goals first | (intro h; cases h; done) | (intro h; injection h with h; cases h)
 | insert t m k x =>
  exfalso
  replace h : cO P t m k x = some (XOp.callv y args) := h
  revert h
  unfold cO
  repeat' split
  all_goals first | (intro h; cases h; done) | (intro h; injection h with h; cases h)
 | range t x =>
  exfalso
  replace h : dR P t x = some (XOp.callv y args) := h
  revert h
  unfold dR
  repeat' split
  all_goals first | (intro h; cases h; done) | (intro h; injection h with h; cases h)
 | alloc t =>
  exfalso
  replace h : (ce P t).map (fun z => XOp.alloc (z.map cf)) = some (XOp.callv y args) := h
  revert h
  unfold Option.map
  repeat' split
  all_goals first | (intro h; cases h; done) | (intro h; injection h with h; cases h)
 | build t parts =>
  exfalso
  replace h : dN P t parts = some (XOp.callv y args) := h
  revert h
  unfold dN
  repeat' split
  all_goals first | (intro h; cases h; done) | (intro h; injection h with h; cases h)
 | buildSlice t len parts =>
  exfalso
  replace h : br P t len parts = some (XOp.callv y args) := h
  revert h
  unfold br
  repeat' split
  all_goals first | (intro h; cases h; done) | (intro h; injection h with h; cases h)
 | load t x =>
  exfalso
  replace h : cK P t x = some (XOp.callv y args) := h
  revert h
  unfold cK Option.map
  repeat' split
  all_goals first | (intro h; cases h; done) | (intro h; injection h with h; cases h)
 | store t p x =>
  exfalso
  replace h : (cz P t).map (fun n => XOp.store n p x) = some (XOp.callv y args) := h
  revert h
  unfold Option.map
  repeat' split
  all_goals first | (intro h; cases h; done) | (intro h; injection h with h; cases h)
 | binOp op t x z u =>
  exfalso
  replace h : iG P op t x z = some (XOp.callv y args) := h
  revert h
  unfold iG jQ
  repeat' split
  all_goals first | (intro h; cases h; done) | (intro h; injection h with h; cases h)
 | convert t u x =>
  exfalso
  replace h : fy P t u x = some (XOp.callv y args) := h
  revert h
  unfold fy
  repeat' split
  all_goals first | (intro h; cases h; done) | (intro h; injection h with h; cases h)
 | slice t x lo hi mx =>
  exfalso
  replace h : dS P t x lo hi mx = some (XOp.callv y args) := h
  revert h
  unfold dS
  repeat' split
  all_goals first | (intro h; cases h; done) | (intro h; injection h with h; cases h)
 | makeInterface t x =>
  exfalso
  replace h : tj P t x = some (XOp.callv y args) := h
  revert h
  unfold tj
  repeat' split
  all_goals first | (intro h; cases h; done) | (intro h; injection h with h; cases h)
 | field t x n =>
  exfalso
  replace h : iI P t x n = some (XOp.callv y args) := h
  revert h
  unfold iI Option.map
  repeat' split
  all_goals first | (intro h; cases h; done) | (intro h; injection h with h; cases h)
 | fieldAddr t x n =>
  exfalso
  replace h : dO P t x n = some (XOp.callv y args) := h
  revert h
  unfold dO
  repeat' split
  all_goals first | (intro h; cases h; done) | (intro h; injection h with h; cases h)
 | indexAddr t x i =>
  exfalso
  replace h : (cc P t).map (fun p => XOp.iaddr p.2 x i) = some (XOp.callv y args) := h
  revert h
  unfold Option.map
  repeat' split
  all_goals first | (intro h; cases h; done) | (intro h; injection h with h; cases h)
 | index t x i =>
  exfalso
  replace h : (match P.underlying t with | some .string => some (XOp.idxS x i) | _ => none) = some (XOp.callv y args) := h
  revert h
  skip
  repeat' split
  all_goals first | (intro h; cases h; done) | (intro h; injection h with h; cases h)
 | _ => first | (cases h; done) | (injection h with h; cases h)
theorem yC {op : Op} {x : XOp} (h : CG P op = some x) : ∀ c, op ≠ .defer c := fun c e => by rw [e] at h; cases h
def fX (P : Program) (v : AV) (args : List AV) (s : St) (d : Option Nat) (K : St -> List Nat -> Prop) : Prop :=
 match v with
 | .yld i r c slots => CB P i r c slots args s d K
 | v => kG P v args s d K
def aQ (P : Program) (d : Option Nat) (op : XOp) (s : St) (K : St -> List Nat -> Prop) : Prop :=
 match op with
 | .callv x args => fX P (s.get x) (args.map s.get) s d K
 | op => aC P d op s K
theorem kH {d : Option Nat} {x : XOp} {K : St -> List Nat -> Prop} (h : ∀ y args, x ≠ .callv y args) : aQ P d x s K = aC P d x s K := by
 cases x <;> first | rfl | exact absurd rfl (h _ _)
theorem xd {rr : Option Nat} (o : Oper) (x : XOp) (hc : CG P o.op = some x) (hf : ap N o = true) (K : St -> List Nat -> Prop) (hx : aQ P o.dst x s K) : ∃ s' l, K s' l /\ xh P C N rr s s' o Q := by
 have plain : aC P o.dst x s K -> ∃ s' l, K s' l /\ xh P C N rr s s' o Q := fun hx => by
  obtain ⟨s', l, h1, h2⟩ := mc (C := C) (N := N) (Q := Q) o x hc hf K hx
  exact ⟨s', l, h1, h2.inside (yC hc)⟩
 cases x with
 | callv y args =>
  obtain ⟨zs, ts, ho, rfl⟩ := yB hc
  unfold aQ fX at hx
  dsimp only at hx
  split at hx
  ·rename_i i r c slots hg
   exact yK o y zs ts ho i r c slots hg K hx hf
  ·exact plain hx
 | _ => exact plain hx
structure XOper where
 dst : Option Nat
 op : XOp
 guard : Option (Nat × Bool)
def bB (P : Program) (N : Nat) (ops : Array Oper) (o : Oper) : Option XOper :=
 match CG P o.op with
 | some x =>
  if ap N o = true then
   match o.guard with
   | none => some ⟨o.dst, x, none⟩
   | some (j, want) => match (ops[j]?).bind (·.dst) with
    | some t => if t < N then some ⟨o.dst, x, some (t, want)⟩ else none
    | none => none
  else none
 | none => some ⟨o.dst, .bad, none⟩
def du (s : St) (o : XOper) : Option Bool :=
 match o.guard with
 | none => some true
 | some (g, want) => match s.look g with
  | .v (.bool b) => some (b == want)
  | .v (.tuple _) => some false
  | _ => none
def bL (w : Option Bool) (A B : Prop) : Prop :=
 match w with
 | some true => A
 | some false => B
 | none => False
def eG (P : Program) : List XOper -> St -> List Nat -> (St -> List Nat -> Prop) -> Prop
 | [], s, ld, K => K s ld
 | o :: r, s, ld, K =>
  bL (du s o) (aQ P o.dst o.op s fun s' l => eX s' fun s' => eG P r s' (l ++ ld) K) (eX (s.puts o.dst (.v undef) false) fun s' => eG P r s' ld K)
inductive XRun (P : Program) : List XOper -> St -> List Nat -> St -> List Nat -> Prop
 | nil (s : St) (ld : List Nat) : XRun P [] s ld s ld
 | step (o : XOper) (r : List XOper) (s s1 s' : St) (ld l ld' : List Nat) (hw : du s o = some true) (hx : aQ P o.dst o.op s fun s2 l2 => s2 = s1 /\ l2 = l) (hr : XRun P r s1 (l ++ ld) s' ld') : XRun P (o :: r) s ld s' ld'
 | skip (o : XOper) (r : List XOper) (s s' : St) (ld ld' : List Nat) (hw : du s o = some false) (hr : XRun P r (s.puts o.dst (.v undef) false) ld s' ld') : XRun P (o :: r) s ld s' ld'
theorem rz {d : Option Nat} {x : XOp} {K : St -> List Nat -> Prop} (h : aC P d x s K) : ∃ s1 l, K s1 l /\ aC P d x s fun s2 l2 => s2 = s1 /\ l2 = l := by
 cases x with
 | assign y =>
  unfold aC at h ⊢
  dsimp only at h ⊢
  cases d with
  | none => exact h.elim
  | some d => exact ⟨_, _, h, rfl, rfl⟩
 | alloc z => exact ⟨_, _, h, rfl, rfl⟩
 | box y =>
  unfold aC at h ⊢
  dsimp only at h ⊢
  unfold ax at h ⊢
  split at h
  ·exact ⟨_, _, h, rfl, rfl⟩
  ·exact h.elim
 | buildSlice k len z parts =>
  unfold aC at h ⊢
  dsimp only at h ⊢
  unfold ax at h ⊢
  split at h
  ·exact ⟨_, _, h, rfl, rfl⟩
  ·exact h.elim
 | store n p y =>
  unfold aC at h ⊢
  dsimp only at h ⊢
  unfold ax at h ⊢
  split at h
  ·exact ⟨_, _, h, rfl, rfl⟩
  ·exact h.elim
 | append k bytes y z => exact jJ h
 | appendN k bytes z =>
  rcases h with h | h
  ·obtain ⟨s', l, h1, h2⟩ := jJ h
   exact ⟨s', l, h1, .inl h2⟩
  ·unfold ig at h
   split at h
   ·rename_i k2 es2 nul2 room2 hz2
    obtain ⟨h1, h2, h3, h4, h5, h6⟩ := h
    refine ⟨_, _, h6, .inr ?_⟩
    rw [hz2]
    exact ⟨h1, h2, h3, h4, h5, rfl, rfl⟩
   ·exact h.elim
 | s2b z =>
  unfold aC zX at h ⊢
  dsimp only at h ⊢
  split at h
  ·exact ⟨_, _, h.2, h.1, rfl, rfl⟩
  ·exact h.elim
 | appendS y z =>
  unfold aC gI at h ⊢
  dsimp only at h ⊢
  split at h
  ·obtain ⟨h1, h2, h3⟩ := h; exact ⟨_, _, h3, h1, h2, rfl, rfl⟩
  ·exact h.elim
 | call f args =>
  rcases h with h | h
  ·obtain ⟨bs, r, h', wr, h0, h1, h2, h3⟩ := h; exact ⟨_, _, h3, .inl ⟨bs, r, h', wr, h0, h1, h2, rfl, rfl⟩⟩
  ·obtain ⟨bs, r, h', wr, hh, h0, h4, h1, h2, h3⟩ := h; exact ⟨_, _, h3, .inr ⟨bs, r, h', wr, hh, h0, h4, h1, h2, rfl, rfl⟩⟩
 | makeMap n one => exact ⟨_, _, h, rfl, rfl⟩
 | emptyS k => exact ⟨_, _, h, rfl, rfl⟩
 | clearM n one x =>
  unfold aC ii at h ⊢
  dsimp only at h ⊢
  split at h
  ·exact ⟨_, _, h, rfl, rfl⟩
  ·unfold ax at h ⊢
   obtain ⟨h1, h2⟩ := h
   split at h2
   ·exact ⟨_, _, h2, h1, rfl, rfl⟩
   ·exact h2.elim
  ·exact h.elim
 | clearS z x =>
  unfold aC jc at h ⊢
  dsimp only at h ⊢
  split at h
  ·exact ⟨_, _, h.2, h.1, rfl, rfl⟩
  ·unfold ax at h ⊢
   obtain ⟨h1, h2⟩ := h
   split at h2
   ·exact ⟨_, _, h2.2, h1, h2.1, rfl, rfl⟩
   ·exact h2.elim
  ·exact h.elim
 | makeS k bytes c =>
  unfold aC sO at h ⊢
  dsimp only at h ⊢
  split at h
  ·exact ⟨_, _, h.2.2.2, h.1, h.2.1, h.2.2.1, rfl, rfl⟩
  ·exact h.elim
 | makeB k bytes z c =>
  unfold aC sN at h ⊢
  dsimp only at h ⊢
  split at h
  ·exact ⟨_, _, h.2.2.2, h.1, h.2.1, h.2.2.1, rfl, rfl⟩
  ·exact h.elim
 | mapUpd ks n one m k x =>
  unfold aC il at h ⊢
  dsimp only at h ⊢
  split at h
  ·unfold ax at h ⊢
   obtain ⟨h1, h2, h3⟩ := h
   split at h3
   ·obtain ⟨h4, h5⟩ := h3
    split at h5
    ·exact ⟨_, _, h5, h1, h2, h4, rfl, rfl⟩
    ·exact h5.elim
   ·exact h3.elim
  ·exact h.elim
 | mapDel ks n one m k =>
  unfold aC ij at h ⊢
  dsimp only at h ⊢
  split at h
  ·exact ⟨_, _, h.2, h.1, rfl, rfl⟩
  ·unfold ax at h ⊢
   obtain ⟨h1, h2, h3⟩ := h
   split at h3
   ·obtain ⟨h4, h5⟩ := h3
    exact ⟨_, _, h5, h1, h2, h4, rfl, rfl⟩
   ·exact h3.elim
  ·exact h.elim
 | rangeM n one x =>
  unfold aC io at h ⊢
  dsimp only at h ⊢
  split at h
  ·exact ⟨_, _, h, rfl, rfl⟩
  ·unfold ax at h ⊢
   obtain ⟨h1, h2⟩ := h
   split at h2
   ·exact ⟨_, _, h2, h1, rfl, rfl⟩
   ·exact h2.elim
  ·exact h.elim
 | callv y args =>
  unfold aC kG at h ⊢
  dsimp only at h ⊢
  split at h
  ·obtain ⟨hc, h⟩ := h
   rcases h with h | h
   ·obtain ⟨bs, r, h', wr, h0, h1, h2, h3⟩ := h; exact ⟨_, _, h3, hc, .inl ⟨bs, r, h', wr, h0, h1, h2, rfl, rfl⟩⟩
   ·obtain ⟨bs, r, h', wr, hh, h0, h4, h1, h2, h3⟩ := h; exact ⟨_, _, h3, hc, .inr ⟨bs, r, h', wr, hh, h0, h4, h1, h2, rfl, rfl⟩⟩
  ·exact h.elim
 | _ => exact ⟨_, _, h.2, h.1, rfl, rfl⟩
theorem xe {d : Option Nat} {x : XOp} {K : St -> List Nat -> Prop} (h : aQ P d x s K) : ∃ s1 l, K s1 l /\ aQ P d x s fun s2 l2 => s2 = s1 /\ l2 = l := by
 cases x with
 | callv y args =>
  have h0 := h
  unfold aQ fX at h
  dsimp only at h
  split at h
  ·rename_i i r c slots hg
   obtain ⟨bs, res, h', wr, h1, h2, h3, h4⟩ := h
   refine ⟨_, _, h4, ?_⟩
   unfold aQ fX
   dsimp only
   rw [hg]
   exact ⟨bs, res, h', wr, h1, h2, h3, rfl, rfl⟩
  ·rename_i hg
   obtain ⟨s1, l, h1, h2⟩ := rz (x := .callv y args) (show aC P d (.callv y args) s K from h)
   refine ⟨s1, l, h1, ?_⟩
   unfold aQ fX
   dsimp only
   split
   ·rename_i i r c slots hg2; exact absurd hg2 (hg i r c slots)
   ·exact h2
 | _ =>
  rw [kH (fun y args e => by cases e)] at h
  obtain ⟨s1, l, h1, h2⟩ := rz h
  exact ⟨s1, l, h1, by rw [kH (fun y args e => by cases e)]; exact h2⟩
theorem lw : ∀ (xs : List XOper) (s : St) (ld : List Nat) (K : St -> List Nat -> Prop), eG P xs s ld K -> ∃ s' ld', K s' ld' /\ XRun P xs s ld s' ld'
 | [], s, ld, K, h => ⟨s, ld, h, .nil s ld⟩
 | o :: r, s, ld, K, h => by
  unfold eG bL at h
  split at h
  ·rename_i hw
   obtain ⟨s1, l, h1, h2⟩ := xe h
   obtain ⟨s', ld', h3, h4⟩ := lw r s1 (l ++ ld) K h1
   exact ⟨s', ld', h3, .step o r s s1 s' ld l ld' hw h2 h4⟩
  ·rename_i hw
   obtain ⟨s', ld', h3, h4⟩ := lw r _ ld K h
   exact ⟨s', ld', h3, .skip o r s s' ld ld' hw h4⟩
  ·exact h.elim
theorem dM {ops : Array Oper} {o : Oper} {x : XOper} (h : bB P N ops o = some x) : (x.op = .bad /\ x.guard = none) \/ CG P o.op = some x.op /\ ap N o = true /\ x.dst = o.dst /\
  ∀ (G : Ghost) (cls : Nat -> Id) (s : St) (a : Act) (w : World), Rel C N G cls s a w -> ∀ b, du s x = some b -> Region.wanted o (yielded ops a.tmps) = b := by
 unfold bB at h
 split at h
 ·rename_i y hy
  split at h
  ·rename_i hf
   split at h
   ·rename_i hg
    injection h with h; subst h
    refine .inr ⟨hy, hf, rfl, fun G cls s a w hR b hb => ?_⟩
    have : some true = some b := hb
    injection this with this
    rw [<- this]
    simp [Region.wanted, hg]
   ·rename_i j want hg
    split at h
    ·rename_i t ht
     split at h
     ·rename_i htN
      injection h with h; subst h
      refine .inr ⟨hy, hf, rfl, fun G cls s a w hR b hb => ?_⟩
      unfold du at hb
      dsimp only at hb
      split at hb
      ·rename_i v hv
       injection hb with hb
       have h1 := (hR.env t htN).1
       rw [hv] at h1
       have h2 := h1.inv_v
       have h3 : yielded ops a.tmps j = some v := by
        unfold yielded
        rw [ht]
        have : a.tmps[t]? = some (.bool v) := by
         rw [Ro (by rw [hR.size]; exact htN)]
         rw [Rc, Ro (by rw [hR.size]; exact htN)] at h2
         simpa using h2
        simp [this]
       rw [<- hb]
       simp [Region.wanted, hg, h3]
      ·rename_i vs hv
       injection hb with hb
       have h1 := (hR.env t htN).1
       rw [hv] at h1
       have h2 := h1.inv_v
       have h3 : yielded ops a.tmps j = none := by
        unfold yielded
        rw [ht]
        have : a.tmps[t]? = some (.tuple vs) := by
         rw [Ro (by rw [hR.size]; exact htN)]
         rw [Rc, Ro (by rw [hR.size]; exact htN)] at h2
         simpa using h2
        simp [this]
       rw [<- hb]
       simp [Region.wanted, hg, h3]
      ·cases hb
     ·cases h
    ·cases h
  ·cases h
 ·injection h with h; subst h; exact .inl ⟨rfl, rfl⟩
theorem oo {rr : Option Nat} (ops : Array Oper) {xs : List XOper} {s s' : St} {ld ld' : List Nat} (hr : XRun P xs s ld s' ld') : ∀ (l : List Oper), l.mapM (bB P N ops) = some xs -> ∀ (G : Ghost) (cls : Nat -> Id) (a : Act) (w : World), Rel C N G cls s a w ->
  (∀ a' w' G' cls', Rel C N G' cls' s' a' w' -> Stays G G' s s' -> Q .normal a' w') -> wpListIn (Fr rr) 0 P ops Q l a w := by
 induction hr with
 | nil s ld =>
  intro l hl G cls a w hR hQ
  have : l = [] := by
   cases l with
   | nil => rfl
   | cons o r => have := (mapM_some _ _ _ hl).1; simp at this
  subst this
  exact hQ a w G cls hR (Stays.same rfl)
 | step o r s s1 s' ld l1 ld' hw hx hr ih =>
  intro l hl G cls a w hR hQ
  cases l with
  | nil => simp at hl
  | cons y l =>
   simp only [R1, RO, RY] at hl
   cases hy : bB P N ops y with
   | none => rw [hy] at hl; cases hl
   | some x =>
    cases hrr : l.mapM (bB P N ops) with
    | none => rw [hy, hrr] at hl; cases hl
    | some r' =>
     rw [hy, hrr] at hl
     simp at hl
     obtain ⟨rfl, rfl⟩ := hl
     rcases dM (C := C) hy with ⟨hb, _⟩ | ⟨h1, h2, h3, h4⟩
     ·rw [hb] at hx; exact hx.1.elim
     have hwant := h4 G cls s a w hR true hw
     rw [h3] at hx
     obtain ⟨s2, l2, ⟨rfl, rfl⟩, hS⟩ := xd (C := C) (N := N) (rr := rr) (Q := Q) y x.op h1 h2 _ hx
     unfold wpListIn
     rw [if_pos hwant]
     refine Oper.wpIn_mono (fun a' w' hh => ?_) (hS G cls a w hR)
     obtain ⟨G', cls', hR', hS'⟩ := hh
     exact ih l hrr G' cls' a' w' hR' fun a2 w2 G2 cls2 hR2 hS2 => hQ a2 w2 G2 cls2 hR2 (hS'.trans hS2 (hR.boxLen hR' hS'.ext))
 | skip o r s s' ld ld' hw hr ih =>
  intro l hl G cls a w hR hQ
  cases l with
  | nil => simp at hl
  | cons y l =>
   simp only [R1, RO, RY] at hl
   cases hy : bB P N ops y with
   | none => rw [hy] at hl; cases hl
   | some x =>
    cases hrr : l.mapM (bB P N ops) with
    | none => rw [hy, hrr] at hl; cases hl
    | some r' =>
     rw [hy, hrr] at hl
     simp at hl
     obtain ⟨rfl, rfl⟩ := hl
     rcases dM (C := C) hy with ⟨_, hg⟩ | ⟨h1, h2, h3, h4⟩
     ·unfold du at hw; rw [hg] at hw; cases hw
     have hwant := h4 G cls s a w hR false hw
     unfold wpListIn
     rw [hwant, if_neg (by simp)]
     refine ⟨fun _ _ => trivial, ?_⟩
     have hR' := hR.puts (d := x.dst) (v := undef) (o := false) (fun d hd => an h2 d (by rw [<- h3]; exact hd)) (.v undef) trivial (fun _ => rfl)
     rw [h3] at hR'
     rw [h3] at ih
     exact ih l hrr G cls _ w hR' fun a2 w2 G2 cls2 hR2 hS2 => hQ a2 w2 G2 cls2 hR2 (hS2.wr_eq' (aO _ _ _ _).symm)
end
inductive XTree where
 | done
 | take (o : XOper) (t : XTree)
 | only (o : XOper) (t : XTree)
 | two (o p : XOper) (t u : XTree)
 | last (o : XOper)
 | alt (o : XOper) (t u : XTree)
def XOp.writes : XOp -> Bool
 | .store .. => true
 | .mapUpd .. => true
 | .mapDel .. => true
 | .clearM .. => true
 | _ => false
def XOp.quiet : XOp -> Bool
 | .assign _ => true
 | x => x.isVal
def fresh (ld : List Nat) (s s' : St) : Prop := ∀ i ∈ ld, i ∉ s'.wr.take (s'.wr.length - s.wr.length)
def gp (P : Program) (o : XOper) (s : St) (ld : List Nat) (K : St -> List Nat -> Prop) : Prop :=
 bL (du s o) (aC P o.dst o.op s fun s' l => eX s' fun s' => K s' (l ++ ld)) (eX (s.puts o.dst (.v undef) false) fun s' => K s' ld)
def dn (P : Program) (o : XOper) (s : St) (ld : List Nat) (K : St -> List Nat -> Prop) : Prop :=
 bL (du s o) (aC P o.dst o.op s fun s' l => fresh ld s s' /\ eX s' fun s' => K s' (l ++ ld)) (eX (s.puts o.dst (.v undef) false) fun s' => K s' ld)
def bu (P : Program) : XTree -> St -> List Nat -> (St -> Prop) -> Prop
 | .done, s, _, K => K s
 | .take o t, s, ld, K => gp P o s ld fun s' ld' => bu P t s' ld' K
 | .only o t, s, ld, K => dn P o s ld fun s' ld' => bu P t s' ld' K
 | .last o, s, _, K => bL (du s o) (aC P o.dst o.op s fun s' _ => eX s' K) (eX (s.puts o.dst (.v undef) false) K)
 | .two o p t u, s, ld, K => (dn P o s ld fun s' ld' => bu P t s' ld' K) /\ dn P p s ld fun s' ld' => bu P u s' ld' K
 | .alt o t u, s, ld, K => (dn P o s ld fun s' ld' => bu P t s' ld' K) /\ bu P u s ld K
def tf (f : Nat -> Option (XOper × XTree)) : List Nat -> Option XTree
 | [] => none
 | [i] => (f i).map fun p => .only p.1 p.2
 | i :: j :: r => match f i, tf f (j :: r) with
  | some p, some u => some (.alt p.1 p.2 u)
  | _, _ => none
theorem nt {P : Program} {f : Nat -> Option (XOper × XTree)} {s : St} {ld : List Nat} {K : St -> Prop} : ∀ {l : List Nat} {t : XTree}, tf f l = some t -> bu P t s ld K -> ∀ i ∈ l, ∃ x t', f i = some (x, t') /\ dn P x s ld fun s' ld' => bu P t' s' ld' K
 | [], t, h, hx, i, hi => by cases hi
 | [j], t, h, hx, i, hi => by
  have : i = j := by simpa using hi
  subst this
  unfold tf at h
  cases hf : f i with
  | none => rw [hf] at h; cases h
  | some p => rw [hf] at h; injection h with h; subst h; exact ⟨p.1, p.2, rfl, hx⟩
 | j :: k :: r, t, h, hx, i, hi => by
  unfold tf at h
  split at h
  ·rename_i p u hp hu
   injection h with h; subst h
   rcases Rp.1 hi with rfl | hi
   ·exact ⟨p.1, p.2, hp, hx.1⟩
   ·exact nt hu hx.2 i hi
  ·cases h
def waits (ops : Array Oper) (j i : Nat) : Bool :=
 match ops[j]? with
 | some o => o.after.any fun e => Region.binds .any e && e.on == i
 | none => false
def ir (ops : Array Oper) (n : Nat) : Bool :=
 decide (n + 1 = ops.size) && (RM n).all fun i => (RM ops.size).any fun j => decide (i < j) && waits ops j i
def gu (P : Program) (N : Nat) (ops : Array Oper) : Nat -> Array Bool -> Option XTree
 | 0, listed => if Region.ready .any ops listed = [] then some .done else none
 | n + 1, listed =>
  match Region.ready .any ops listed with
  | [] => some .done
  | i0 :: r =>
   match (i0 :: r).find? fun i => (match ops[i]? with
     | some o => (match bB P N ops o with | some x => x.op.quiet | none => false)
     | none => false) && Region.free .any ops listed i with
   | some i => match ops[i]? with
    | some o => match bB P N ops o, gu P N ops n (listed.setIfInBounds i true) with
     | some x, some t => some (.take x t)
     | _, _ => none
    | none => none
   | none => match r with
    | [] => match ops[i0]? with
     | some o => match bB P N ops o, gu P N ops n (listed.setIfInBounds i0 true) with
      | some x, some t => some (if x.guard.isNone && x.op.writes && ir ops i0 && (Region.ready .any ops (listed.setIfInBounds i0 true)).isEmpty then .last x else .only x t)
      | _, _ => none
     | none => none
    | [j] => match ops[i0]?, ops[j]? with
     | some o, some p => match bB P N ops o, gu P N ops n (listed.setIfInBounds i0 true), bB P N ops p, gu P N ops n (listed.setIfInBounds j true) with
      | some x, some t, some y, some u => some (.two x y t u)
      | _, _, _, _ => none
     | _, _ => none
    | _ => if (i0 :: r).length <= 4 /\ ops.size <= 10 then tf (fun i => match ops[i]? with
     | some o => match bB P N ops o, gu P N ops n (listed.setIfInBounds i true) with
      | some x, some t => some (x, t)
      | _, _ => none
     | none => none) (i0 :: r) else none
def SS (G : Ghost) (ld : List Nat) (w : World) : Prop :=
 ∃ G', Ext G G' /\ WorldOk G' w /\ ∀ i ∈ ld, i < G.boxv.length -> G'.boxv[i]? = G.boxv[i]?
structure Shut2 (ops : Array Oper) (listed : Array Bool) : Prop where
 size : listed.size = ops.size
 closed : ∀ j oj, ops[j]? = some oj -> listed.getD j false = true -> ∀ e ∈ oj.after, Region.binds .any e = true -> listed.getD e.on false = true
theorem yc {listed : Array Bool} {i : Nat} (h : listed.getD i true = false) : listed.getD i false = false := by
 rcases RR i listed.size with h' | h'
 ·simp [h'] at h ⊢; exact h
 ·simp [RH h'] at h
theorem Lz {listed : Array Bool} {i : Nat} (hi : i < listed.size) (h : listed.getD i false = false) : listed.getD i true = false := by
 simp [hi] at h ⊢; exact h
theorem rh {listed : Array Bool} {i j : Nat} (h : listed.getD j false = true) : (listed.setIfInBounds i true).getD j false = true := by
 by_cases hij : i = j
 ·subst hij
  rcases RR i listed.size with h' | h'
  ·simp [h']
  ·simp [RH h'] at h
 ·rw [getD_set_ne false hij]; exact h
theorem Shut2.none (ops : Array Oper) : Shut2 ops (Ru ops.size false) := by
 refine ⟨by simp, fun j oj _ h => ?_⟩
 exfalso
 rcases RR j ops.size with h' | h'
 ·simp [h'] at h
 ·simp [h'] at h
theorem Shut2.set {ops : Array Oper} {listed : Array Bool} {i : Nat} (h : Shut2 ops listed) (hi : i ∈ Region.ready .any ops listed) : Shut2 ops (listed.setIfInBounds i true) := by
 obtain ⟨_, oi, hoi, hall⟩ := mem_ready.1 hi
 refine ⟨by simp [h.size], fun j oj hj hl e he hb => ?_⟩
 by_cases hij : i = j
 ·subst hij
  have : oj = oi := Option.some.inj (hj.symm.trans hoi)
  subst this
  exact rh (hall e he hb)
 ·rw [getD_set_ne false hij] at hl
  exact rh (h.closed j oj hj hl e he hb)
theorem xb {ops : Array Oper} {j i : Nat} (h : waits ops j i = true) : ∃ oj, ops[j]? = some oj /\ ∃ e ∈ oj.after, Region.binds .any e = true /\ e.on = i := by
 unfold waits at h
 split at h
 ·rename_i o ho
  obtain ⟨e, he, hb⟩ := Array.any_eq_true'.1 h
  simp only [Rj, beq_iff_eq] at hb
  exact ⟨o, ho, e, he, hb.1, hb.2⟩
 ·cases h
theorem yZ {ops : Array Oper} {n : Nat} {listed : Array Bool} (hl : ir ops n = true) (hs : Shut2 ops listed) (hr : n ∈ Region.ready .any ops listed) :
  ∀ (d i : Nat), n - i = d -> i < n -> listed.getD i true = false -> False := by
 simp only [ir, Rj, decide_eq_true_eq] at hl
 obtain ⟨hn, hsink⟩ := hl
 obtain ⟨hnu, on, hon, hall⟩ := mem_ready.1 hr
 intro d
 induction d using RZ with
 | _ d ih =>
  intro i hd hi hun
  obtain ⟨j, hj, hj2⟩ := List.any_eq_true.1 (RD.1 hsink i (R2.2 hi))
  simp only [Rj, decide_eq_true_eq] at hj2
  have hj3 := R2.1 hj
  obtain ⟨oj, hoj, e, he, hb, heq⟩ := xb hj2.2
  have no : ∀ b : Bool, listed.getD e.on false = b -> b = true -> False := fun b h1 h2 => by
   rw [heq, yc hun] at h1; rw [<- h1] at h2; cases h2
  by_cases hjn : j = n
  ·subst hjn
   have : oj = on := Option.some.inj (hoj.symm.trans hon)
   subst this
   exact no _ rfl (hall e he hb)
  ·cases hlj : listed.getD j false with
   | true => exact no _ rfl (hs.closed j oj hoj hlj e he hb)
   | false => exact ih (n - j) (by omega) j rfl (by omega) (Lz (by rw [hs.size]; omega) hlj)
def sT (P : Program) (ops : Array Oper) (Q : Exit -> Act -> World -> Prop) (S : World -> Prop) : Nat -> Array Bool -> Act -> World -> Prop
 | 0, listed, a, w => Region.ready .any ops listed = [] /\ Q .normal a w
 | fuel + 1, listed, a, w =>
  (Region.ready .any ops listed = [] -> Q .normal a w) /\
  ∀ i ∈ Region.ready .any ops listed, wpOp P ops Q i (fun a' w' => (ir ops i = false -> S w') /\ sT P ops Q S fuel (listed.setIfInBounds i true) a' w') a w
theorem nm {P : Program} {ops : Array Oper} {Q : Exit -> Act -> World -> Prop} {S S' : World -> Prop} (hS : ∀ w, S' w -> S w) : ∀ (n : Nat) (listed : Array Bool) (a : Act) (w : World), sT P ops Q S' n listed a w -> sT P ops Q S n listed a w
 | 0, _, _, _, h => h
 | n + 1, _, _, _, h => ⟨h.1, fun i hi => wpOp_mono (fun _ _ h' => ⟨fun hh => hS _ (h'.1 hh), nm hS n _ _ _ h'.2⟩) (h.2 i hi)⟩
theorem yh {P : Program} {ops : Array Oper} {Q : Exit -> Act -> World -> Prop} {S : World -> Prop} : ∀ (n : Nat) (listed : Array Bool) (a : Act) (w : World), sT P ops Q S n listed a w -> wpAny P .any ops Q n listed a w
 | 0, _, _, _, h => h
 | n + 1, _, _, _, h => ⟨h.1, fun i hi => wpOp_mono (fun _ _ h' => yh n _ _ _ h'.2) (h.2 i hi)⟩
theorem pE {P : Program} {ops : Array Oper} {Q : Exit -> Act -> World -> Prop} {S : World -> Prop} {listed : Array Bool} {a : Act} {w : World} (hr : Region.ready .any ops listed = []) (h : Q .normal a w) : ∀ n, sT P ops Q S n listed a w
 | 0 => ⟨hr, h⟩
 | _ + 1 => ⟨fun _ => h, by rw [hr]; simp⟩
theorem sJ {P : Program} {ops : Array Oper} {Q : Exit -> Act -> World -> Prop} {S : World -> Prop} {rs : List Nat} {n : Nat} {listed : Array Bool} {a : Act} {w : World} (hr : Region.ready .any ops listed = rs) (hne : rs ≠ [])
  (h : ∀ i ∈ rs, wpOp P ops Q i (fun a' w' => (ir ops i = false -> S w') /\ sT P ops Q S n (listed.setIfInBounds i true) a' w') a w) : sT P ops Q S (n + 1) listed a w :=
 ⟨fun h0 => absurd (hr ▸ h0) hne, hr ▸ h⟩
theorem zV {P : Program} {ops : Array Oper} {Q : Exit -> Act -> World -> Prop} {S : World -> Prop} {i : Nat} {oi : Oper} {v : Value} (hi : ops[i]? = some oi) (hsel : ∀ (j : Nat) (o : Oper) cs b, ops[j]? = some o -> o.op ≠ .select cs b)
  (hQ : ∀ c a w, Q (.panic c) (a.put oi.dst v) w -> Q (.panic c) a w) :
  ∀ (n : Nat) (listed : Array Bool) (a : Act) (w : World), Shut2 ops listed ->
   (∀ j oj, ops[j]? = some oj -> j ≠ i -> listed.getD j true = false -> (∀ e ∈ oj.after, Region.binds .any e = true -> e.on ≠ i) -> oi.apart ops oj = true) ->
   i ∈ Region.ready .any ops listed -> YieldsIf P ops S oi v a -> S w ->
   sT P ops Q S n (listed.setIfInBounds i true) (a.put oi.dst v) w -> sT P ops Q S (n + 1) listed a w := by
 intro n
 induction n with
 | zero =>
  intro listed a w _ _ hr hy hS H
  refine ⟨fun h => (by rw [h] at hr; cases hr), fun j hj => ?_⟩
  by_cases hji : j = i
  ·subst hji; exact hy.wpOp hi hS ⟨fun _ => hS, H⟩
  ·have := ready_mono hj hji
   rw [H.1] at this
   cases this
 | succ n ih =>
  intro listed a w hsh hfree hr hy hS H
  refine ⟨fun h => (by rw [h] at hr; cases hr), fun j hj => ?_⟩
  by_cases hji : j = i
  ·subst hji; exact hy.wpOp hi hS ⟨fun _ => hS, H⟩
  ·have h1 := H.2 j (ready_mono hj hji)
   obtain ⟨hjun, oj, hoj, hall⟩ := mem_ready.1 hj
   have hiun := (mem_ready.1 hr).1
   have hnl : ir ops j = false := by
    cases hl : ir ops j with
    | false => rfl
    | true =>
     exfalso
     have hl' := hl
     simp only [ir, Rj, decide_eq_true_eq] at hl'
     have hilt : i < ops.size := (Rg.1 hi).1
     exact yZ hl hsh hj _ i rfl (by omega) hiun
   have hnot : ∀ e ∈ oj.after, Region.binds .any e = true -> e.on ≠ i := fun e he hb heq => by
    have h1 := hall e he hb
    rw [heq, yc hiun] at h1
    cases h1
   have h2 := wpOp_putIf hoj (hfree j oj hoj hji hjun hnot) (fun cs b => hsel i oi cs b hi) (fun cs b => hsel j oj cs b hoj) hQ hy h1
   have hfree' : ∀ k ok, ops[k]? = some ok -> k ≠ i -> (listed.setIfInBounds j true).getD k true = false ->
     (∀ e ∈ ok.after, Region.binds .any e = true -> e.on ≠ i) -> oi.apart ops ok = true := fun k ok hk hki hun hno => by
    refine hfree k ok hk hki ?_ hno
    by_cases hjk : j = k
    ·subst hjk; exact hjun
    ·rw [getD_set_ne true hjk] at hun; exact hun
   refine wpOp_mono (fun a' w' h3 => ⟨h3.2.1, ih (listed.setIfInBounds j true) a' w' (hsh.set hj) hfree' (ready_mono hr (Ne.symm hji)) h3.1 (h3.2.1 hnl) ?_⟩) h2
   rw [Array.setIfInBounds_comm _ _ hji]
   exact h3.2.2
theorem pF {P : Program} {ops : Array Oper} {Q : Exit -> Act -> World -> Prop} {S : World -> Prop} {i : Nat} {oi : Oper} {v : Value} {n : Nat} {listed : Array Bool} {a : Act} {w : World} (hi : ops[i]? = some oi) (hsh : Shut2 ops listed)
  (hs : Region.noSelect ops = true) (hf : Region.free .any ops listed i = true) (hr : (Region.ready .any ops listed).contains i = true)
  (hQ : ∀ c a w, Q (.panic c) (a.put oi.dst v) w -> Q (.panic c) a w) (hy : YieldsIf P ops S oi v a) (hS : S w)
  (h : sT P ops Q S n (listed.setIfInBounds i true) (a.put oi.dst v) w) : sT P ops Q S (n + 1) listed a w :=
 zV hi (Region.noSelect_spec hs) hQ n listed a w hsh (Region.free_spec hi hf) (by simpa using hr) hy hS h
theorem EA (s : St) (x : XOp) (hok : (bH s x).ok) : ∀ i ∈ (bH s x).ld, i < s.heap.length := by
 cases x with
 | load1 y =>
  show ∀ i ∈ (ep s.heap (s.get y)).ld, _
  replace hok : (ep s.heap (s.get y)).ok := hok
  unfold ep at hok ⊢
  split at hok
  ·split at hok
   ·rename_i hh
    split at hok
    ·intro i hi
     simp [*] at hi
     subst hi
     exact (Q7.1 hh).1
    ·exact hok.elim
   ·exact hok.elim
  ·intro i hi; simp [Val.of] at hi
  ·exact hok.elim
 | loadN n y =>
  show ∀ i ∈ (dG s.heap n (s.get y)).ld, _
  replace hok : (dG s.heap n (s.get y)).ok := hok
  unfold dG at hok ⊢
  split at hok
  ·split at hok
   ·rename_i hh
    intro i hi
    simp at hi
    subst hi
    exact (Q7.1 hh).1
   ·exact hok.elim
  ·intro i hi; simp at hi
  ·exact hok.elim
 | lookup ks n one c z y k =>
  show ∀ i ∈ (dL s.heap ks n one c z (s.get y) (s.get k)).ld, _
  replace hok : (dL s.heap ks n one c z (s.get y) (s.get k)).ok := hok
  unfold dL at hok ⊢
  split at hok
  ·split at hok
   ·intro i hi; simp at hi
   ·split at hok
    ·rename_i p hp
     intro i hi
     simp [*] at hi
     subst hi
     unfold cp at hp
     cases hc : s.heap[i]? with
     | none => rw [hc] at hp; cases hp
     | some cs => exact (Q7.1 hc).1
    ·exact hok.elim
   ·exact hok.elim
  ·exact hok.elim
 | lenM n one y =>
  show ∀ i ∈ (pv s.heap n one (s.get y)).ld, _
  replace hok : (pv s.heap n one (s.get y)).ok := hok
  unfold pv at hok ⊢
  split at hok
  ·intro i hi; simp [Val.of] at hi
  ·split at hok
   ·rename_i p hp
    intro i hi
    simp [*] at hi
    subst hi
    unfold cp at hp
    cases hc : s.heap[i]? with
    | none => rw [hc] at hp; cases hp
    | some cs => exact (Q7.1 hc).1
   ·exact hok.elim
  ·exact hok.elim
 | entry y =>
  show ∀ i ∈ (gn s.heap (s.get y)).ld, _
  replace hok : (gn s.heap (s.get y)).ok := hok
  unfold gn at hok ⊢
  split at hok
  ·rename_i j0 i0 n0 one0 heq0
   split at hok
   ·rename_i q p hq hp
    split at hok
    ·intro i hi
     have hi' : i = j0 \/ i = i0 := by simpa using hi
     unfold sd at hq
     unfold cp at hp
     rcases hi' with rfl | rfl
     ·cases hc : s.heap[i]? with
      | none => rw [hc] at hq; cases hq
      | some cs => exact (Q7.1 hc).1
     ·cases hc : s.heap[i]? with
      | none => rw [hc] at hp; cases hp
      | some cs => exact (Q7.1 hc).1
    ·exact hok.elim
   ·exact hok.elim
  ·exact hok.elim
 | _ =>
  intro i hi
  exfalso
  revert hi
  simp only [bH, py, gl, wV, wS, wR, kF, pz, pt, wP, wQ, Io, rn, rp, lZ, jp, kD, kE, pr, fp, sI, pw, pu, wT, wU, px, Val.of, Val.bad]
  repeat' split
  all_goals simp
theorem vg {P : Program} {op : Op} {y : Operand} (h : CG P op = some (.assign y)) : op = .assign y := by
 unfold CG at h
 split at h
 all_goals first
  | (injection h with h; injection h with h; subst h; rfl)
  | (exfalso; revert h; (try unfold dN); (try unfold br); (try unfold iG); (try unfold jQ); (try unfold fy); (try unfold dS); (try unfold dO); (try unfold iI); (try unfold tj); (try unfold cK); (try unfold fx); (try unfold gr); (try unfold nC); (try unfold cQ); (try unfold fz); (try unfold dQ); (try unfold cO); (try unfold nB); (try unfold iH); (try unfold dR); (try unfold Option.map)
     repeat' split
     all_goals simp)
section
variable {P : Program} {C : Ctx} {N : Nat} {Q : Exit -> Act -> World -> Prop} {ops : Array Oper}
theorem SS.here {G : Ghost} {cls : Nat -> Id} {s : St} {a : Act} {w : World} (h : Rel C N G cls s a w) (ld : List Nat) : SS G ld w := ⟨G, Ext.refl G, h.ok, fun _ _ _ => rfl⟩
theorem SS.back {G G' : Ghost} {s s' : St} (h : Stays G G' s s') (hl : G.boxv.length <= G'.boxv.length) {ld ld' : List Nat} (hld : ∀ i ∈ ld, i ∈ ld') (hf : fresh ld s s') {w : World} (hw : SS G' ld' w) : SS G ld w := by
 obtain ⟨G2, h1, h2, h3⟩ := hw
 obtain ⟨l, h4, h5⟩ := h.grow
 refine ⟨G2, h.ext.trans h1, h2, fun i hi hlt => (h3 i (hld i hi) (by omega)).trans (h5 i hlt fun hh => hf i hi ?_)⟩
 rw [h4]
 simp [hh]
theorem SS.less {G : Ghost} {ld ld' : List Nat} (hld : ∀ i ∈ ld, i ∈ ld') {w : World} (hw : SS G ld' w) : SS G ld w := by
 obtain ⟨G2, h1, h2, h3⟩ := hw
 exact ⟨G2, h1, h2, fun i hi hlt => h3 i (hld i hi) hlt⟩
theorem vD {s s' : St} (ld : List Nat) (h : s'.wr = s.wr) : fresh ld s s' := fun i hi => by rw [h]; simp
theorem ib {i : Nat} {o : Oper} {x : XOper} (hi : ops[i]? = some o) (hx : bB P N ops o = some x) {s : St} {ld : List Nat} {K : St -> List Nat -> Prop} (h : dn P x s ld K) {G : Ghost} {cls : Nat -> Id} {a : Act} {w : World} (hR : Rel C N G cls s a w)
  {n : Nat} {listed : Array Bool} (hK : ∀ s' ld' G' cls' a' w', K s' ld' -> Rel C N G' cls' s' a' w' -> sT P ops (NoPanic Q) (SS G' ld') n (listed.setIfInBounds i true) a' w') :
  wpOp P ops (NoPanic Q) i (fun a' w' => (ir ops i = false -> SS G ld w') /\ sT P ops (NoPanic Q) (SS G ld) n (listed.setIfInBounds i true) a' w') a w := by
 rcases dM (C := C) hx with ⟨hb, hg⟩ | ⟨h1, h2, h3, h4⟩
 ·exfalso
  unfold dn bL du at h
  rw [hg, hb] at h
  exact h.1
 unfold dn bL at h
 unfold wpOp
 simp only [hi]
 split at h
 ·rename_i hw
  rw [if_pos (h4 G cls s a w hR true hw)]
  rw [h3] at h
  obtain ⟨s', l, ⟨hf, hk⟩, hS⟩ := mc (C := C) (N := N) (Q := NoPanic Q) o x.op h1 h2 _ h
  refine .inl (Oper.wp_mono (fun a' w' hh => ?_) (hS G cls a w hR))
  obtain ⟨G', cls', hR', hS'⟩ := hh
  have hl := hR.boxLen hR' hS'.ext
  have hb : ∀ w, SS G' (l ++ ld) w -> SS G ld w := fun w hw => hw.back hS' hl (fun i hi => RK _ hi) hf
  exact ⟨fun _ => hb _ (.here hR' _), nm hb _ _ _ _ (hK s' _ G' cls' a' w' hk hR')⟩
 ·rename_i hw
  rw [h4 G cls s a w hR false hw, if_neg (by simp)]
  have hR' := hR.puts (d := x.dst) (v := undef) (o := false) (fun d hd => an h2 d (by rw [<- h3]; exact hd)) (.v undef) trivial (fun _ => rfl)
  rw [h3] at hR' h
  exact ⟨fun _ => .here hR' _, hK _ _ G cls _ w h hR'⟩
 ·exact h.elim
theorem vM {i : Nat} {o : Oper} {x : XOper} (hi : ops[i]? = some o) (hx : bB P N ops o = some x) (hl : ir ops i = true) {s : St} {ld : List Nat} {K : St -> Prop} (h : bu P (.last x) s ld K) {G : Ghost} {cls : Nat -> Id} {a : Act} {w : World} (hR : Rel C N G cls s a w)
  {n : Nat} {listed : Array Bool} (hr : Region.ready .any ops (listed.setIfInBounds i true) = []) {S : World -> Prop} (hK : ∀ s' G' cls' a' w', K s' -> Rel C N G' cls' s' a' w' -> Q .normal a' w') :
  wpOp P ops (NoPanic Q) i (fun a' w' => (ir ops i = false -> S w') /\ sT P ops (NoPanic Q) S n (listed.setIfInBounds i true) a' w') a w := by
 have no : ∀ w, ir ops i = false -> S w := fun w hh => by rw [hl] at hh; cases hh
 rcases dM (C := C) hx with ⟨hb, hg⟩ | ⟨h1, h2, h3, h4⟩
 ·exfalso
  unfold bu bL du at h
  rw [hg, hb] at h
  exact h.1
 unfold bu bL at h
 unfold wpOp
 simp only [hi]
 split at h
 ·rename_i hw
  rw [if_pos (h4 G cls s a w hR true hw)]
  rw [h3] at h
  obtain ⟨s', l, hk, hS⟩ := mc (C := C) (N := N) (Q := NoPanic Q) o x.op h1 h2 _ h
  refine .inl (Oper.wp_mono (fun a' w' hh => ?_) (hS G cls a w hR))
  obtain ⟨G', cls', hR', hS'⟩ := hh
  exact ⟨no _, pE hr (NoPanic.normal (hK s' G' cls' a' w' hk hR')) _⟩
 ·rename_i hw
  rw [h4 G cls s a w hR false hw, if_neg (by simp)]
  have hR' := hR.puts (d := x.dst) (v := undef) (o := false) (fun d hd => an h2 d (by rw [<- h3]; exact hd)) (.v undef) trivial (fun _ => rfl)
  rw [h3] at hR' h
  exact ⟨no _, pE hr (NoPanic.normal (hK _ G cls _ w h hR')) _⟩
 ·exact h.elim
theorem wJ {i : Nat} {o : Oper} {x : XOper} (hi : ops[i]? = some o) (hx : bB P N ops o = some x) (hq : x.op.quiet = true) {s : St} {ld : List Nat} {K : St -> List Nat -> Prop} (h : gp P x s ld K) {G : Ghost} {cls : Nat -> Id} {a : Act} {w : World} (hR : Rel C N G cls s a w)
  {n : Nat} {listed : Array Bool} (hs : Region.noSelect ops = true) (hsh : Shut2 ops listed) (hf : Region.free .any ops listed i = true) (hr : i ∈ Region.ready .any ops listed)
  (hK : ∀ s' ld' G' cls' a' w', K s' ld' -> Rel C N G' cls' s' a' w' -> sT P ops (NoPanic Q) (SS G' ld') n (listed.setIfInBounds i true) a' w') : sT P ops (NoPanic Q) (SS G ld) (n + 1) listed a w := by
 rcases dM (C := C) hx with ⟨hb, _⟩ | ⟨h1, h2, h3, h4⟩
 ·rw [hb] at hq; cases hq
 have hr' : (Region.ready .any ops listed).contains i = true := by simpa using hr
 unfold gp bL at h
 split at h
 ·rename_i hw
  have hwant := h4 G cls s a w hR true hw
  rw [h3] at h
  by_cases hv : x.op.isVal = true
  ·
   have hx2 : (bH s x.op).ok /\ K (s.puts o.dst (bH s x.op).val (bH s x.op).own) ((bH s x.op).ld ++ ld) := by
    generalize x.op = y at h hv
    cases y <;> first | exact h | exact absurd hv (by simp [XOp.isVal])
   obtain ⟨v, e1, e2, e3, e4⟩ := ma hR o x.op h1 hv h2 hx2.1
   have hR' := hR.puts (an h2) e1 e2 e3
   have hld := EA s x.op hx2.1
   refine nm (S' := SS G ((bH s x.op).ld ++ ld)) (fun w hw => hw.less fun i hi => RK _ hi) _ _ _ _ ?_
   refine pF (v := v) hi hsh hs hf hr' (fun _ _ _ hh => hh) (.inl ⟨hwant, fun w hw => ?_⟩) (.here hR _) (hK _ _ G cls _ w hx2.2 hR')
   obtain ⟨G2, g1, g2, g3⟩ := hw
   exact e4 G2 w g1 g2 fun i hi => g3 i (List.mem_append_left _ hi) (by rw [<- hR.heap.1]; exact hld i hi)
  ·
   obtain ⟨y, hy⟩ : ∃ y, x.op = .assign y := by
    generalize x.op = z at hq hv
    cases z <;> first | exact ⟨_, rfl⟩ | exact absurd hq hv
   have ho : o.op = .assign y := by
    rw [hy] at h1; exact vg h1
   rw [hy] at h
   unfold aC at h
   dsimp only at h
   split at h
   ·rename_i d hd
    have hrun : ∀ w, (execOp a.eval o).run P w = .ok (.value (a.eval y)) w := fun w => by unfold execOp; rw [ho]; rfl
    have he := nG (P := P) (C := C) (N := N) (s := s) (Q := NoPanic Q) o y ho d hd h2 G cls a w hR
    unfold Oper.wp at he
    rw [hrun w] at he
    obtain ⟨G', cls', hR', hS'⟩ := he
    have hl := hR.boxLen hR' hS'.ext
    have hwr : (s.assigned d y).wr = s.wr := by
     unfold St.assigned; repeat' split
     all_goals rfl
    refine pF (v := a.eval y) hi hsh hs hf hr' (fun _ _ _ hh => hh) (.inl ⟨hwant, fun w _ => hrun w⟩) (.here hR _) ?_
    exact nm (fun w hw => hw.back hS' hl (fun i hi => hi) (vD ld hwr)) _ _ _ _ (hK _ ld G' cls' _ w (by simpa [eX] using h) hR')
   ·exact h.elim
 ·rename_i hw
  have hwant := h4 G cls s a w hR false hw
  have hR' := hR.puts (d := x.dst) (v := undef) (o := false) (fun d hd => an h2 d (by rw [<- h3]; exact hd)) (.v undef) trivial (fun _ => rfl)
  rw [h3] at hR' h
  exact pF (v := undef) hi hsh hs hf hr' (fun _ _ _ hh => hh) (.inr ⟨hwant, rfl⟩) (.here hR _) (hK _ _ G cls _ w h hR')
 ·exact h.elim
theorem pp (hs : Region.noSelect ops = true) : ∀ (n : Nat) (listed : Array Bool) (t : XTree), Shut2 ops listed -> gu P N ops n listed = some t -> ∀ (s : St) (ld : List Nat) (K : St -> Prop) (G : Ghost) (cls : Nat -> Id) (a : Act) (w : World), Rel C N G cls s a w -> bu P t s ld K ->
  (∀ s' G' cls' a' w', K s' -> Rel C N G' cls' s' a' w' -> Q .normal a' w') -> sT P ops (NoPanic Q) (SS G ld) n listed a w
 | 0, listed, t, hsh, ht, s, ld, K, G, cls, a, w, hR, hx, hK => by
  unfold gu at ht
  split at ht
  ·rename_i hr
   injection ht with ht; subst ht
   exact ⟨hr, hK s G cls a w hx hR⟩
  ·cases ht
 | n + 1, listed, t, hsh, ht, s, ld, K, G, cls, a, w, hR, hx, hK => by
  have next : ∀ (i : Nat), i ∈ Region.ready .any ops listed -> ∀ (t' : XTree), gu P N ops n (listed.setIfInBounds i true) = some t' -> ∀ (s' : St) (ld' : List Nat) (G' : Ghost) (cls' : Nat -> Id) (a' : Act) (w' : World), bu P t' s' ld' K -> Rel C N G' cls' s' a' w' -> sT P ops (NoPanic Q) (SS G' ld') n (listed.setIfInBounds i true) a' w' :=
   fun i hri t' ht' s' ld' G' cls' a' w' hx' hR' => pp hs n _ t' (hsh.set hri) ht' s' ld' K G' cls' a' w' hR' hx' hK
  unfold gu at ht
  split at ht
  ·rename_i hr
   injection ht with ht; subst ht
   exact pE hr (NoPanic.normal (hK s G cls a w hx hR)) _
  ·rename_i i0 r hr
   split at ht
   ·rename_i i hfind
    split at ht
    ·rename_i o hi
     split at ht
     ·rename_i x t' hx' ht'
      injection ht with ht; subst ht
      have hp := List.find?_some hfind
      have hmem := List.mem_of_find?_eq_some hfind
      simp only [hi, hx', Rj] at hp
      exact wJ hi hx' hp.1 hx hR hs hsh hp.2 (by rw [hr]; exact hmem) (next i (by rw [hr]; exact hmem) t' ht')
     ·cases ht
    ·cases ht
   ·split at ht
    ·split at ht
     ·rename_i o hi
      split at ht
      ·rename_i x t' hx' ht'
       injection ht with ht
       refine sJ hr (by simp) fun i hm => ?_
       have : i = i0 := by simpa using hm
       subst this
       split at ht
       ·rename_i hlast
        simp only [Rj, List.isEmpty_iff] at hlast
        subst ht
        exact vM hi hx' hlast.1.2 (s := s) (ld := ld) hx hR hlast.2 hK
       ·subst ht
        exact ib hi hx' hx hR (next i (by rw [hr]; exact hm) t' ht')
      ·cases ht
     ·cases ht
    ·rename_i _ j _
     split at ht
     ·rename_i o p hi hj
      split at ht
      ·rename_i x t1 y t2 hx1 ht1 hx2 ht2
       injection ht with ht; subst ht
       refine sJ hr (by simp) fun i hm => ?_
       rcases (by simpa using hm : i = i0 \/ i = j) with rfl | rfl
       ·exact ib hi hx1 hx.1 hR (next i (by rw [hr]; simp) t1 ht1)
       ·exact ib hj hx2 hx.2 hR (next i (by rw [hr]; simp) t2 ht2)
      ·cases ht
     ·cases ht
    ·split at ht
     ·refine sJ hr (by simp) fun i hm => ?_
      obtain ⟨x, t', hf, hx1⟩ := nt ht hx i hm
      split at hf
      ·rename_i o hi
       split at hf
       ·rename_i x' t2 hx2 ht2
        injection hf with hf
        injection hf with hf1 hf2
        subst hf1 hf2
        exact ib hi hx2 hx1 hR (next i (by rw [hr]; exact hm) _ ht2)
       ·cases hf
      ·cases hf
     ·cases ht
def ng (ops : Array Oper) : Bool := ops.toList.all fun o => match o.op with
 | .defer _ => false
 | _ => true
theorem si {ops : Array Oper} (h : ng ops = true) (i : Nat) (o : Oper) (ho : ops[i]? = some o) : ∀ c, o.op ≠ .defer c := fun c e => by
 have := RD.1 h o (Rb (by simpa using ho))
 rw [e] at this
 cases this
theorem tn {rr : Option Nat} {id : Nat} (hm : P.follows .mixedOrders = true) (hs : Region.noSelect ops = true) (hnd : ng ops = true) (hq : ∀ a w, ¬ Q .outgrown a w) {t : XTree} (ht : gu P N ops ops.size (Ru ops.size false) = some t) {s : St} {K : St -> Prop} {G : Ghost} {cls : Nat -> Id} {a : Act} {w : World} (hR : Rel C N G cls s a w) (hx : bu P t s [] K)
  (hK : ∀ s' G' cls' a' w', K s' -> Rel C N G' cls' s' a' w' -> Q .normal a' w') : (Code.region id ops true).wpIn (Fr rr) 0 P Q a w :=
 wpIn_mono (wpIn_region_any hm (lv hq (si hnd) _ _ _ _ (yh _ _ _ _ (pp hs _ _ t (Shut2.none ops) ht s [] K G cls a w.drew hR.drew hx hK)))) NoPanic.imp
end
section
variable {F : Fence} {n : Nat} {P : Program} {b : Frame} {a : Act} {k : List Item} {cs : List Frame} {w : World} {Q : Exit -> Act -> World -> Prop}
theorem cX {c : Code} : step P (lone (b.atR a (.code (.scope c) :: k)) cs w) = .next (lone (b.atR a (.code c :: .inScope c :: k)) cs w) :=
 step_lone_go (by simp [stepG, stepG.exec, Frame.atR])
theorem qf {c : Code} : step P (lone (b.atR a (.inScope c :: k)) cs w) = .next (lone (b.atR a k) cs w) :=
 step_lone_go (by simp [stepG, stepG.exec, Frame.atR])
theorem jt {c : Code} (h : c.wpIn F n P (Exit.noGoto Q) a w) : (Code.scope c).wpIn F n P Q a w := by
 intro b k cs hro hb hr
 have h0 : (lone (b.atR a (.code (.scope c) :: k)) cs w).fenced P F := fenced_calm hb hr rfl
 obtain ⟨e, a₁, w₁, hq, harr⟩ := h b (.inScope c :: k) cs hro hb hr
 cases e with
 | normal => exact ⟨.normal, a₁, w₁, hq, .head h0 cX (StepsIn.trans harr (.one (fenced_calm hb hr rfl) qf))⟩
 | exit id =>
  have hx : exitTo id (.inScope c :: k) = exitTo id k := by simp [exitTo]
  exact ⟨_, a₁, w₁, hq, fun k' hk => .head h0 cX (harr.1 k' (by rw [hx]; exact hk)),
   fun hr' hk => let ⟨k₁, h1, h2⟩ := harr.2 hr' (by rw [hx]; exact hk); ⟨k₁, h1, .head h0 cX h2⟩⟩
 | goto l => exact hq.elim
 | ret => exact ⟨_, a₁, w₁, hq, .of_steps (.one h0 cX) harr⟩
 | panic ch => exact ⟨_, a₁, w₁, hq, .of_steps (.one h0 cX) harr⟩
 | outgrown => exact ⟨_, a₁, w₁, hq, .of_steps (.one h0 cX) harr⟩
end
def Ghost.dropO (G : Ghost) (D : Nat) : Ghost := { G with objs := fun b => if b = D then none else G.objs b }
theorem Sees.dropO {G : Ghost} (D : Nat) {x : AV} {v : Value} (h : Sees G x v) : Sees (G.dropO D) x v := by
 induction h with
 | v x => exact .v x
 | any x => exact .any x
 | box i off b hb => exact Sees.box (G := G.dropO D) i off b hb
 | ro cs b o u hc hs h1 ih => exact .ro cs b o u hc ih h1
 | sl k es nul room a len cap u hlen hn hk hcap hm hr hc hs h1 ih => exact .sl k es nul room a len cap u hlen hn hk hcap hm hr hc ih h1
 | fn f first cap us vs h1 h2 hs1 hs2 ih1 ih2 => exact .fn f first cap us vs h1 h2 ih1 ih2
 | agg cs us hl hs h1 ih => exact .agg cs us hl ih h1
 | tup cs us hl hs ih => exact .tup cs us hl ih
 | bsl i off k n b cap hb hcap hm o ho => exact Sees.bsl (G := G.dropO D) i off k n b cap hb hcap hm o ho
 | yld i b r c slots hb hk hl hs ih => exact .yld i b r c slots hb hk hl ih
 | mp i b n one hb hk => exact .mp i b n one hb hk
 | ifc t a x h ih => exact .ifc t a x ih
 | itr i b n one im mb hb hk hm => exact .itr i b n one im mb hb hk (by cases im <;> exact hm)
theorem jZ : ∀ {l m : List Nat}, l.map fe = m.map fe -> l = m
 | [], [], _ => rfl
 | a :: l, b :: m, h => by
  simp only [Ry, List.cons.injEq] at h
  obtain ⟨h1, h2⟩ := h
  have e : a = b := by injection h1 with h1 _; injection h1
  rw [e, jZ h2]
 | [], b :: m, h => by simp at h
 | a :: l, [], h => by simp at h
section
variable {C : Ctx} {N : Nat} {G : Ghost} {cls : Nat -> Id} {s : St} {a : Act} {w : World}
theorem Rel.shut (h : Rel C N G cls s a w) {D : Nat} {Ds : List Nat} (hd : a.defers = (D :: Ds).map fe) :
  w.heap[D]? = some (.deferred (some [])) /\ Rel C N (G.dropO D) cls s { a with defers := Ds.map fe } (w.putObj D (.deferred none)) := by
 obtain ⟨Ds', e, hnd, hall⟩ := h.defers
 obtain rfl : Ds' = D :: Ds := jZ (e.symm.trans hd)
 obtain ⟨ho, hg0, hlow⟩ := hall D (Rf ..)
 have hobj := (h.ok.obj.obj D _ ho).1
 have hlt : D < w.heap.size := (Rg.1 hobj).1
 have hsame := World.putObj_heap_same (w := w) (o := .deferred none) hlt
 have cellD : ∀ b j, (w.putObj D (.deferred none)).cell? ⟨b, j, none⟩ = w.cell? ⟨b, j, none⟩ /\ (w.putObj D (.deferred none)).frozen? ⟨b, j, none⟩ = w.frozen? ⟨b, j, none⟩ := fun b j => by
  by_cases hb : b = D
  ·subst hb
   simp [World.cell?, World.frozen?, hobj, hsame]
  ·have := World.putObj_heap_other (w := w) (o := .deferred none) hb
   exact ⟨World.cell?_of_block (a := ⟨b, j, none⟩) this, World.frozen?_of_block (a := ⟨b, j, none⟩) this⟩
 have hne : ∀ (b : Nat) (κ : Kind) (vs : List Value), w.heap[b]? = some (κ.obj vs) -> b ≠ D := fun b κ vs hb e => by
  subst e
  rw [hobj] at hb
  injection hb with hb
  exact κ.notDeferred vs _ hb
 have hW : WorldOk (G.dropO D) (w.putObj D (.deferred none)) := by
  refine ⟨h.ok.below.trans ⟨rfl, rfl, rfl, by simp, fun k hk => World.putObj_heap_other (by omega)⟩, fun b B hB => ?_, fun i b vs h1 h2 => ?_, h.ok.nodup2, h.ok.len, fun b o hb => ?_, fun i b vs κ h1 h2 h3 => ?_, fun b hb => ?_, fun b j hj => ?_⟩
  ·obtain ⟨q1, q2, q3, q4, q5⟩ := h.ok.buf b B hB
   exact ⟨q1, by simpa using q2, q3, fun j hj => by rw [(cellD b j).1, (cellD b j).2]; exact q4 j hj, fun j x hx => by rw [(cellD b j).1]; exact q5 j x hx⟩
  ·obtain ⟨q1, q2, q3, q4⟩ := h.ok.box i b vs h1 h2
   exact ⟨q1, by simpa using q2, q3, fun j x hx => by rw [(cellD b _).1, (cellD b _).2]; exact q4 j x hx⟩
  ·have hb' : (if b = D then none else G.objs b) = some o := hb
   split at hb'
   ·cases hb'
   ·rename_i hbD
    obtain ⟨q1, q2⟩ := h.ok.obj.obj b o hb'
    exact ⟨(World.putObj_heap_other hbD).trans q1, q2⟩
  ·obtain ⟨q1, q2⟩ := h.ok.obj.kbox i b vs κ h1 h2 h3
   exact ⟨(World.putObj_heap_other (hne b κ vs q1)).trans q1, q2⟩
  ·simpa using h.ok.obj.kind b hb
  ·rw [(cellD b j).1, (cellD b j).2]; exact h.ok.obj.room b j hj
 refine ⟨hobj, hW, ⟨h.heap.1, fun i cs vs h1 h2 => ?_⟩, h.ownh, fun t ht => ⟨(h.env t ht).1.dropO D, (h.env t ht).2⟩, h.plain, h.size, ?_, ⟨h.ext.w0, h.ext.bufs, h.ext.boxes, fun b o hb => ?_, h.ext.objs.2⟩, h.boxes, h.bufs⟩
 ·obtain ⟨q1, q2, q3⟩ := h.heap.2 i cs vs h1 h2
  exact ⟨q1, q2, fun j c hj => (q3 j c hj).dropO D⟩
 ·have hnd' := R0.1 hnd
  refine ⟨Ds, rfl, hnd'.2, fun D' hD' => ?_⟩
  obtain ⟨q1, q2, q3⟩ := hall D' (Rh _ hD')
  refine ⟨?_, q2, q3⟩
  show (if D' = D then none else G.objs D') = _
  rw [if_neg (fun e : D' = D => hnd'.1 (e ▸ hD'))]; exact q1
 ·show (if b = D then none else G.objs b) = some o
  rw [if_neg (fun e => by subst e; rw [hg0] at hb; cases hb)]
  exact h.ext.objs.1 b o hb
end
mutual
def AV.lt (n : Nat) : AV -> Prop
 | .v _ => True
 | .any => True
 | .box i _ => i < n
 | .bsl i _ _ _ => i < n
 | .yld i _ _ a => i < n /\ cg n a
 | .mp i _ _ => i < n
 | .itr i im _ _ => i < n /\ match im with | none => True | some j => j < n
 | .ifc _ a => a.lt n
 | .ro cs => cg n cs
 | .sl _ es _ _ => aR n es
 | .fn _ a b => cg n a /\ cg n b
 | .agg cs => cg n cs
 | .tup cs => cg n cs
def cg (n : Nat) : List AV -> Prop
 | [] => True
 | c :: r => c.lt n /\ cg n r
def aR (n : Nat) : List (List AV) -> Prop
 | [] => True
 | e :: r => cg n e /\ aR n r
end
theorem cd {n : Nat} : ∀ {l : List AV}, cg n l -> ∀ (j : Nat) (c : AV), l[j]? = some c -> c.lt n
 | [], _, j, c, h => by simp at h
 | x :: l, h, 0, c, e => by unfold cg at h; simp at e; subst e; exact h.1
 | x :: l, h, j + 1, c, e => by unfold cg at h; exact cd h.2 j c (by simpa using e)
theorem dV {n : Nat} : ∀ {l : List (List AV)}, aR n l -> ∀ (j : Nat) (e : List AV), l[j]? = some e -> cg n e
 | [], _, j, c, h => by simp at h
 | x :: l, h, 0, c, e => by unfold aR at h; simp at e; subst e; exact h.1
 | x :: l, h, j + 1, c, e => by unfold aR at h; exact dV h.2 j c (by simpa using e)
theorem jW {n : Nat} : ∀ {l m : List AV}, cg n (l ++ m) ↔ cg n l /\ cg n m
 | [], m => by simp [cg]
 | x :: l, m => by rw [RU]; simp only [cg, jW (l := l), and_assoc]
theorem cV {n : Nat} : ∀ {l m : List (List AV)}, aR n (l ++ m) ↔ aR n l /\ aR n m
 | [], m => by simp [aR]
 | x :: l, m => by rw [RU]; simp only [aR, cV (l := l), and_assoc]
theorem fc (n : Nat) : ∀ l : List UInt8, aR n (ak l)
 | [] => trivial
 | _ :: l => ⟨⟨trivial, trivial⟩, fc n l⟩
theorem sf {n : Nat} : ∀ {l : List (List AV)}, (∀ e, e ∈ l -> cg n e) -> aR n l
 | [], _ => trivial
 | x :: _, h => ⟨h x (Rf ..), sf fun e he => h e (Rh _ he)⟩
def Ghost.trunc (G : Ghost) (n : Nat) : Ghost := { G with boxes := G.boxes.take n, boxv := G.boxv.take n }
theorem Sees.trunc {G : Ghost} {n : Nat} {a : AV} {x : Value} (h : Sees G a x) : a.lt n -> Sees (G.trunc n) a x := by
 induction h with
 | v x => exact fun _ => .v x
 | any x => exact fun _ => .any x
 | box i off b hb =>
  intro hl
  unfold AV.lt at hl
  exact .box i off b ⟨by show (G.boxes.take n)[i]? = _; rw [Ra, if_pos hl]; exact hb.1, hb.2⟩
 | ro cs b o u hc hs h1 ih =>
  intro hl
  unfold AV.lt at hl
  exact .ro cs b o u hc (fun j c hj => ih j c hj (cd hl j c hj)) h1
 | sl k es nul room a len cap u hlen hn hk hcap hm hr hc hs h1 ih =>
  intro hl
  unfold AV.lt at hl
  exact .sl k es nul room a len cap u hlen hn hk hcap hm hr hc (fun i e he j c hj => ih i e he j c hj (cd (dV hl i e he) j c hj)) h1
 | fn f first cap us vs h1 h2 hs1 hs2 ih1 ih2 =>
  intro hl
  unfold AV.lt at hl
  exact .fn f first cap us vs h1 h2 (fun j c hj => ih1 j c hj (cd hl.1 j c hj)) (fun j c hj => ih2 j c hj (cd hl.2 j c hj))
 | agg cs us hl0 hs h1 ih =>
  intro hl
  unfold AV.lt at hl
  exact .agg cs us hl0 (fun j c hj => ih j c hj (cd hl j c hj)) h1
 | bsl i off k m b cap hb hcap hm o ho =>
  intro hl
  unfold AV.lt at hl
  exact Sees.bsl (G := G.trunc n) i off k m b cap ⟨by show (G.boxes.take _)[i]? = some b; rw [Ra, if_pos hl]; exact hb.1, hb.2⟩ hcap hm o ho
 | ifc t a x h ih =>
  intro hl
  unfold AV.lt at hl
  exact .ifc t a x (ih hl)
 | mp i b n one hb hk =>
  intro hl
  unfold AV.lt at hl
  exact .mp i b n one (by show (G.boxes.take _)[i]? = some b; rw [Ra, if_pos hl]; exact hb) hk
 | itr i b n one im mb hb hk hm =>
  intro hl
  unfold AV.lt at hl
  refine .itr i b n one im mb (by show (G.boxes.take _)[i]? = some b; rw [Ra, if_pos hl.1]; exact hb) hk ?_
  cases im with
  | none => exact hm
  | some j =>
   obtain ⟨b', h1, h2, h3⟩ := hm
   exact ⟨b', h1, by show (G.boxes.take _)[j]? = some b'; rw [Ra, if_pos hl.2]; exact h2, h3⟩
 | yld i b r c slots hb hk hl0 hs ih =>
  intro hl
  unfold AV.lt at hl
  exact .yld i b r c slots (by show (G.boxes.take _)[i]? = some b; rw [Ra, if_pos hl.1]; exact hb) hk hl0 (fun j c hj => ih j c hj (cd hl.2 j c hj))
 | tup cs us hl0 hs ih =>
  intro hl
  unfold AV.lt at hl
  exact .tup cs us hl0 (fun j c hj => ih j c hj (cd hl j c hj))
theorem WorldOk.trunc {G : Ghost} {w : World} (h : WorldOk G w) (n : Nat) : WorldOk (G.trunc n) w := by
 refine ⟨h.below, h.buf, fun i b vs hb hv => ?_, ⟨h.nodup.take n, h.dom⟩, by simp [Ghost.trunc, h.len], h.obj.obj, fun i b vs κ h1 h2 h3 => ?_, h.obj.kind, h.obj.room⟩
 ·have hb' : (G.boxes.take n)[i]? = some b := hb
  have hv' : (G.boxv.take n)[i]? = some vs := hv
  rw [Ra] at hb' hv'
  split at hb'
  ·rename_i hi
   rw [if_pos hi] at hv'
   exact h.box i b vs hb' hv'
  ·cases hb'
 ·have h1' : (G.boxes.take n)[i]? = some b := h1
  have h2' : (G.boxv.take n)[i]? = some vs := h2
  rw [Ra] at h1' h2'
  split at h1'
  ·rename_i hi
   rw [if_pos hi] at h2'
   exact h.obj.kbox i b vs κ h1' h2' h3
  ·cases h1'
def iP (i : Nat) : Nat -> List AV -> List AV -> Prop
 | _, [], [] => True
 | j, a :: r, b :: q => LeqV (.cell i j) a b /\ iP i (j + 1) r q
 | _, _, _ => False
def iQ : Nat -> List (List AV) -> List (List AV) -> Prop
 | _, [], [] => True
 | i, a :: r, b :: q => (a = b \/ iP i 0 a b) /\ iQ (i + 1) r q
 | _, _, _ => False
theorem tS {i : Nat} : ∀ {l m : List AV} {j : Nat}, iP i j l m -> l.length = m.length /\ ∀ (k : Nat) (b : AV), m[k]? = some b -> ∃ a, l[k]? = some a /\ LeqV (.cell i (j + k)) a b
 | [], [], j, _ => ⟨rfl, fun k b h => by simp at h⟩
 | a :: r, b :: q, j, h => by
  unfold iP at h
  obtain ⟨h1, h2⟩ := tS h.2
  refine ⟨by simp [h1], fun k x hx => ?_⟩
  cases k with
  | zero => simp at hx; subst hx; exact ⟨a, rfl, h.1⟩
  | succ k =>
   obtain ⟨y, h3, h4⟩ := h2 k x (by simpa using hx)
   exact ⟨y, by simpa using h3, by rw [show j + (k + 1) = j + 1 + k by omega]; exact h4⟩
 | [], b :: q, j, h => by unfold iP at h; exact h.elim
 | a :: r, [], j, h => by unfold iP at h; exact h.elim
theorem nW : ∀ {l m : List (List AV)} {i : Nat}, iQ i l m -> l.length = m.length /\ ∀ (k : Nat) (ds : List AV), m[k]? = some ds -> ∃ cs, l[k]? = some cs /\ cs.length = ds.length /\ ∀ (j : Nat) (b : AV), ds[j]? = some b -> ∃ a, cs[j]? = some a /\ LeqV (.cell (i + k) j) a b
 | [], [], i, _ => ⟨rfl, fun k b h => by simp at h⟩
 | a :: r, b :: q, i, h => by
  unfold iQ at h
  obtain ⟨h1, h2⟩ := nW h.2
  refine ⟨by simp [h1], fun k x hx => ?_⟩
  cases k with
  | zero =>
   simp at hx; subst hx
   refine ⟨a, rfl, ?_⟩
   rcases h.1 with rfl | h3
   ·exact ⟨rfl, fun j y hy => ⟨y, hy, gA _ _⟩⟩
   ·obtain ⟨h4, h5⟩ := tS h3
    exact ⟨h4, fun j y hy => by obtain ⟨z, h6, h7⟩ := h5 j y hy; exact ⟨z, h6, by simpa using h7⟩⟩
  | succ k =>
   obtain ⟨y, h3, h4⟩ := h2 k x (by simpa using hx)
   exact ⟨y, by simpa using h3, by rw [show i + (k + 1) = i + 1 + k by omega]; exact h4⟩
 | [], b :: q, i, h => by unfold iQ at h; exact h.elim
 | a :: r, [], i, h => by unfold iQ at h; exact h.elim
theorem eJ : ∀ (l : List (List AV)) (i : Nat), iQ i l l
 | [], _ => trivial
 | _ :: r, i => ⟨.inl rfl, eJ r (i + 1)⟩
def vP (s : St) (n : Nat) : List (Nat × AV) -> Prop
 | [] => True
 | p :: r => (LeqV (.slot p.1) (s.look p.1) p.2 /\ p.2.lt n) /\ vP s n r
def vO (s : St) (n : Nat) : List (Nat × AV) -> Prop
 | [] => True
 | p :: r => (LeqV (.slot p.1) (s.look p.1) p.2 /\ p.2.idOf = none /\ p.2.lt n) /\ vO s n r
def Leq (m : Nat) (s s' : St) : Prop :=
 m <= s'.heap.length /\ s'.heap.length <= s.heap.length /\ iQ 0 (s.heap.take s'.heap.length) s'.heap /\ aR s'.heap.length s'.heap /\ vP s s'.heap.length s'.own /\ vO s s'.heap.length s'.env /\ ∀ i ∈ s.wr, i < m -> i ∈ s'.wr
theorem qF {s : St} {n : Nat} : ∀ {l : List (Nat × AV)}, vP s n l -> ∀ {t : Nat} {a : AV}, find l t = some a -> LeqV (.slot t) (s.look t) a /\ a.lt n
 | [], _, t, a, h => by simp [find] at h
 | p :: r, hl, t, a, h => by
  unfold vP at hl
  unfold find at h
  split at h
  ·rename_i e; injection h with h; subst h e; exact hl.1
  ·exact qF hl.2 h
theorem lM {s : St} {n : Nat} : ∀ {l : List (Nat × AV)}, vO s n l -> ∀ {t : Nat} {a : AV}, find l t = some a -> LeqV (.slot t) (s.look t) a /\ a.idOf = none /\ a.lt n
 | [], _, t, a, h => by simp [find] at h
 | p :: r, hl, t, a, h => by
  unfold vO at hl
  unfold find at h
  split at h
  ·rename_i e; injection h with h; subst h e; exact hl.1
  ·exact lM hl.2 h
section
variable {C : Ctx} {N : Nat}
theorem Leq.rel' {m : Nat} {s s' : St} (h : Leq m s s') (hm : C.G0.boxv.length = m) (hm2 : C.G0.boxes.length = m) {G : Ghost} {cls : Nat -> Id} {a : Act} {w : World} (hR : Rel C N G cls s a w) : ∃ G', G' = G.trunc s'.heap.length /\ Rel C N G' cls s' a w := by
 obtain ⟨h1, h2, h3, h4, h5, h6, h7⟩ := h
 obtain ⟨g1, g2⟩ := nW h3
 have hcell : ∀ (b o : Nat), (G.trunc s'.heap.length).cell b o = G.cell b o := fun _ _ => rfl
 have hl0 : G.boxv.length = s.heap.length := hR.heap.1.symm
 have at_ : ∀ (i : Nat) (ds : List AV) (vs : List Value), s'.heap[i]? = some ds -> (G.trunc s'.heap.length).boxv[i]? = some vs -> ∃ cs, s.heap[i]? = some cs /\ G.boxv[i]? = some vs /\ cs.length = ds.length /\ ∀ (j : Nat) (b : AV), ds[j]? = some b -> ∃ a, cs[j]? = some a /\ LeqV (.cell i j) a b := fun i ds vs e1 e2 => by
  obtain ⟨cs, e3, e4, e5⟩ := g2 i ds e1
  have hi : i < s'.heap.length := (Q7.1 e1).1
  rw [Ra, if_pos hi] at e3
  have e2' : (G.boxv.take s'.heap.length)[i]? = some vs := e2
  rw [Ra, if_pos hi] at e2'
  exact ⟨cs, e3, e2', e4, fun j b hb => by obtain ⟨x, h8, h9⟩ := e5 j b hb; exact ⟨x, h8, by simpa using h9⟩⟩
 refine ⟨G.trunc s'.heap.length, rfl, hR.ok.trunc _, ⟨by show _ = (G.boxv.take _).length; rw [Rr]; omega, fun i ds vs e1 e2 => ?_⟩, fun i ds vs e1 e2 j b hb => ?_, fun t ht => ?_, fun t ht => ?_, hR.size, hR.defers, ⟨hR.ext.w0, hR.ext.bufs, ?_, hR.ext.objs⟩, fun i hi hn => ?_, hR.bufs⟩
 ·obtain ⟨cs, e3, e4, e5, e6⟩ := at_ i ds vs e1 e2
  obtain ⟨f1, f2, f3⟩ := hR.heap.2 i cs vs e3 e4
  refine ⟨by omega, f2, fun j b hb => ?_⟩
  obtain ⟨x, h8, h9⟩ := e6 j b hb
  exact (h9.sees (f3 j x h8)).trunc (cd (dV h4 i ds e1) j b hb)
 ·obtain ⟨cs, e3, e4, e5, e6⟩ := at_ i ds vs e1 e2
  obtain ⟨f1, f2, f3⟩ := hR.heap.2 i cs vs e3 e4
  obtain ⟨x, h8, h9⟩ := e6 j b hb
  obtain ⟨f4, f5⟩ := hR.ownh i cs vs e3 e4 j x h8
  refine ⟨(h9.own (f3 j x h8) f4).keep fun b B c hb _ => hb, fun y hy => ?_⟩
  rcases h9.id with h | h | h | ⟨_, h, _⟩
  ·rw [h] at hy; cases hy
  ·rw [h] at hy; injection hy with hy; exact hy.symm
  ·rw [h] at hy; exact f5 y hy
  ·cases h
 ·obtain ⟨f1, f2⟩ := hR.env t ht
  unfold St.look
  split
  ·rename_i x hx
   obtain ⟨f3, f4⟩ := qF h5 hx
   exact ⟨(f3.sees f1).trunc f4, (f3.own f1 f2).keep fun b B c hb _ => hb⟩
  ·split
   ·rename_i x hx
    obtain ⟨f3, f4, f5⟩ := lM h6 hx
    exact ⟨(f3.sees f1).trunc f5, (f3.own f1 f2).keep fun b B c hb _ => hb⟩
   ·exact ⟨.any _, trivial⟩
 ·unfold St.look
  rw [ht]
  dsimp only
  split
  ·rename_i x hx
   exact (lM h6 hx).2.1
  ·rfl
 ·obtain ⟨more, hmore⟩ := hR.ext.boxes
  have hlb : C.G0.boxes.length <= s'.heap.length := by omega
  exact ⟨more.take (s'.heap.length - C.G0.boxes.length), by show G.boxes.take _ = _; rw [hmore, RV, RI hlb]⟩
 ·by_cases him : i ∈ s.wr
  ·exact absurd (h7 i him (by omega)) hn
  ·show (G.boxv.take _)[i]? = _
   rw [Ra, if_pos (by omega)]
   exact hR.boxes i hi him
theorem Leq.rel {m : Nat} {s s' : St} (h : Leq m s s') (hm : C.G0.boxv.length = m) (hm2 : C.G0.boxes.length = m) {G : Ghost} {cls : Nat -> Id} {a : Act} {w : World} (hR : Rel C N G cls s a w) : ∃ G', Rel C N G' cls s' a w :=
 let ⟨G', _, h⟩ := h.rel' hm hm2 hR
 ⟨G', h⟩
end
def frzOk : List AV -> Prop
 | [] => False
 | .any :: _ => False
 | .v (.chan none) :: _ => False
 | _ => True
theorem frzOk.ne {cs : List AV} (h : frzOk cs) : cs ≠ [] := fun e => by subst e; exact h
theorem frzOk.first {cs : List AV} (h : frzOk cs) {G : Ghost} {c : AV} (hc : cs[0]? = some c) (hs : Sees G c (.chan none)) : False := by
 cases cs with
 | nil => exact h
 | cons x r =>
  simp at hc
  subst hc
  cases hs with
  | v => exact h
  | any => exact h
def AV.frz (i : Nat) (cs : List AV) : AV -> AV
 | .bsl j off k n => if j = i /\ off + n * k <= cs.length then .sl k (bO k n ((cs.drop off).take (n * k))) (some false) .no else .bsl j off k n
 | a => a
def tG (i : Nat) (cs : List AV) : List (Nat × AV) -> List (Nat × AV)
 | [] => []
 | (t, a) :: r => (t, a.frz i cs) :: tG i cs r
def St.frz (i : Nat) (cs : List AV) (s : St) : St := { s with env := tG i cs s.env, heap := s.heap.set i [] }
theorem tB (i : Nat) (cs : List AV) (t : Nat) : ∀ l : List (Nat × AV), find (tG i cs l) t = (find l t).map (AV.frz i cs)
 | [] => rfl
 | (k, a) :: r => by
  unfold tG find
  split
  ·rfl
  ·exact tB i cs t r
theorem AZ (i : Nat) (cs : List AV) (a : AV) (h : a.idOf = none) : (a.frz i cs).idOf = none := by
 cases a with
 | bsl j off k n =>
  show (if j = i /\ off + n * k <= cs.length then AV.sl k (bO k n ((cs.drop off).take (n * k))) (some false) .no else AV.bsl j off k n).idOf = none
  by_cases hc : j = i /\ off + n * k <= cs.length
  ·rw [if_pos hc]; rfl
  ·rw [if_neg hc]; rfl
 | _ => exact h
def Ghost.frz (G : Ghost) (i b : Nat) (pre vs : List Value) : Ghost := { G with bufs := fun x => if x = b then some ⟨pre ++ vs, (pre ++ vs).length⟩ else G.bufs x, boxv := G.boxv.set i [] }
section
variable {C : Ctx} {N : Nat} {G : Ghost} {cls : Nat -> Id} {s : St} {a : Act} {w : World}
theorem Ext.frz {i b : Nat} {pre vs : List Value} (hb : G.bufs b = none) : Ext G (G.frz i b pre vs) := by
 refine ⟨rfl, fun x B hB => ⟨[], ?_⟩, ⟨[], by rw [Rm]; rfl⟩, fun _ _ h => h, fun _ _ _ => ⟨rfl, rfl⟩⟩
 have hne : x ≠ b := fun e => by subst e; rw [hb] at hB; cases hB
 show (if x = b then _ else G.bufs x) = _
 rw [if_neg hne, hB, Rm]
theorem WorldOk.frz (h : WorldOk G w) {i b : Nat} {pre vs : List Value} (hb : G.boxes[i]? = some b) (hkn : G.kinds b = none) (hv : G.boxv[i]? = some vs) (hne : vs ≠ []) (hp : pre.length = G.base i) (hpc : ∀ (j : Nat) (x : Value), pre[j]? = some x -> w.cell? ⟨b, j, none⟩ = some x /\ w.frozen? ⟨b, j, none⟩ = false) : WorldOk (G.frz i b pre vs) w := by
 obtain ⟨b1, b2, b3, b4⟩ := h.box i b vs hb hv
 have all : ∀ (j : Nat) (x : Value), (pre ++ vs)[j]? = some x -> w.cell? ⟨b, j, none⟩ = some x /\ w.frozen? ⟨b, j, none⟩ = false := fun j x hj => by
  by_cases hl : j < pre.length
  ·rw [Q9 hl] at hj; exact hpc j x hj
  ·rw [Rn (by omega)] at hj
   have := b4 _ x hj hkn
   rwa [<- hp, show pre.length + (j - pre.length) = j by omega] at this
 refine ⟨h.below, fun x B hB => ?_, fun j x us hj hu => ?_, ⟨h.nodup.kill i, h.dom⟩, by show (G.boxv.set i []).length = _; rw [RG]; exact h.len, (h.obj.setBox (us := []) (Keeps.refl w) hb hkn).congr ⟨rfl, rfl, rfl, rfl⟩⟩
 ·have hB' : (if x = b then some (⟨pre ++ vs, (pre ++ vs).length⟩ : Buf) else G.bufs x) = some B := hB
  split at hB'
  ·rename_i e
   subst e
   injection hB' with hB'
   subst hB'
   refine ⟨b1, b2, Nat.le_refl _, fun j hj => ?_, fun j y hy => (all j y hy).1⟩
   obtain ⟨h1, h2⟩ := all j _ (Q8 hj)
   rw [h1, h2]; exact ⟨rfl, rfl⟩
  ·exact h.buf x B hB'
 ·have hj' : G.boxes[j]? = some x := hj
  have hu' : (G.boxv.set i [])[j]? = some us := hu
  rw [Rk] at hu'
  by_cases e : i = j
  ·subst e
   rw [if_pos rfl, if_pos (Q7.1 hv).1] at hu'
   injection hu' with hu'
   subst hu'
   rw [hb] at hj'
   injection hj' with hj'
   subst hj'
   exact ⟨b1, b2, fun hne => absurd rfl hne, fun j y hy => by simp at hy⟩
  ·rw [if_neg e] at hu'
   obtain ⟨h1, h2, h3, h4⟩ := h.box j x us hj' hu'
   refine ⟨h1, h2, fun hn => ?_, h4⟩
   have hxb : x ≠ b := fun e2 => by
    subst e2
    have := h.nodup.other hb hj' e hv hne
    rw [hu'] at this; injection this with this; exact hn this
   show (if x = b then _ else G.bufs x) = none
   rw [if_neg hxb]; exact h3 hn
theorem Sees.frz (hok : WorldOk G w) {i b : Nat} {cs : List AV} {pre vs : List Value} (hp0 : pre.length = G.base i) (hb : G.boxes[i]? = some b) (hv : G.boxv[i]? = some vs) (hne : vs ≠ []) (hl : vs.length = cs.length) (h1 : ∀ x ∈ vs, x.oneCell' = true) (hs : ∀ (j : Nat) (c : AV), cs[j]? = some c -> Sees G c (vs.getD j undef))
  {y : AV} {x : Value} (h : Sees G y x) : Sees (G.frz i b pre vs) (y.frz i cs) x := by
 obtain ⟨b1, b2, b3, b4⟩ := hok.box i b vs hb hv
 have hE : Ext G (G.frz i b pre vs) := Ext.frz (b3 hne)
 cases y with
 | bsl j off k n =>
  show Sees _ (if j = i /\ off + n * k <= cs.length then AV.sl k (bO k n ((cs.drop off).take (n * k))) (some false) .no else AV.bsl j off k n) x
  by_cases hc : j = i /\ off + n * k <= cs.length
  ·rw [if_pos hc]
   obtain ⟨hji, hfit⟩ := hc
   subst hji
   cases h with
   | bsl _ _ _ _ b' cap hb' hcap hm o2 ho2 =>
    replace hb' := hb'.1
    rw [hb] at hb'
    injection hb' with hb'
    subst hb'
    have hlen : ((cs.drop off).take (n * k)).length = n * k := by rw [Rr, List.length_drop]; omega
    have at_ : ∀ (p : Nat) (e : List AV), (bO k n ((cs.drop off).take (n * k)))[p]? = some e -> p < n /\ e.length = k /\ ∀ (q : Nat) (c : AV), e[q]? = some c -> cs[off + p * k + q]? = some c := fun p e he => by
     have hp : p < n := by
      have := (Q7.1 he).1
      rwa [ba] at this
     obtain ⟨h2, h3⟩ := eH k n _ p e hlen he
     refine ⟨hp, h2, fun q c hq => ?_⟩
     have h4 := h3 q c hq
     rw [Ra] at h4
     split at h4
     ·rw [List.getElem?_drop] at h4
      rw [<- h4]; congr 1; omega
     ·cases h4
    refine .sl k _ (some false) .no (some ⟨b, o2, none⟩) n cap (fun p q => vs.getD (off + p * k + q) undef) (by rw [ba]) ⟨fun h => (by cases h), fun h => (by cases h), fun _ h => (by cases h)⟩ (fun e he => ?_) hcap hm.1 (fun h => by cases h) (fun hp => ⟨b, o2, rfl, fun p q hp hq => ?_⟩) (fun p e he q c hq => ?_) (fun p q hp hq => ?_)
    ·obtain ⟨p, hp⟩ := List.getElem?_of_mem he
     exact (at_ p e hp).2.1
    ·rw [ba] at hp
     have hlt : off + p * k + q < vs.length := by
      have : (p + 1) * k <= n * k := RN _ hp
      rw [R4] at this
      omega
     unfold Ghost.cell
     rw [if_neg (by show ¬ b < G.w0.heap.size; omega)]
     have e2 : o2 = G.base j + off := by omega
     show (if b = b then some (⟨pre ++ vs, (pre ++ vs).length⟩ : Buf) else G.bufs b).bind _ = _
     rw [if_pos rfl]
     show (pre ++ vs)[o2 + p * k + q]? = _
     rw [e2, Rn (by omega), hp0, show G.base j + off + p * k + q - G.base j = off + p * k + q by omega]
     rw [Re, Q8 hlt]; rfl
    ·exact (hs _ c ((at_ p e he).2.2 q c hq)).ext hE
    ·rw [ba] at hp
     have hlt : off + p * k + q < vs.length := by
      have : (p + 1) * k <= n * k := RN _ hp
      rw [R4] at this
      omega
     rw [Re, Q8 hlt]
     exact h1 _ (RW hlt)
  ·rw [if_neg hc]; exact h.ext hE
 | _ => exact h.ext hE
theorem St.frz_look (i : Nat) (cs : List AV) (s : St) (t : Nat) : (s.frz i cs).look t = match find s.own t with | some a => a | none => match find s.env t with | some a => a.frz i cs | none => .any := by
 unfold St.look St.frz
 dsimp only
 split
 ·rename_i x hx; rw [hx]
 ·rename_i hx
  rw [hx, tB]
  cases find s.env t <;> rfl
theorem Rel.frz (h : Rel C N G cls s a w) {i : Nat} {cs : List AV} (hi : C.G0.boxv.length <= i) (hcs : s.heap[i]? = some cs) (hfz : frzOk cs) : ∃ G', Rel C N G' cls (s.frz i cs) a w := by
 have hil : i < s.heap.length := (Q7.1 hcs).1
 have hiv : i < G.boxv.length := by rw [<- h.heap.1]; exact hil
 have hib : i < G.boxes.length := by rw [<- h.ok.len]; exact hiv
 obtain ⟨vs, hv⟩ : ∃ vs, G.boxv[i]? = some vs := ⟨_, Q8 hiv⟩
 obtain ⟨b, hb⟩ : ∃ b, G.boxes[i]? = some b := ⟨_, Q8 hib⟩
 obtain ⟨hl, hone, hsees⟩ := h.heap.2 i cs vs hcs hv
 have hvne : vs ≠ [] := fun e => hfz.ne (by subst e; exact Rl hl.symm)
 have hkn : G.kinds b = none := by
  cases hk : G.kinds b with
  | none => rfl
  | some κ =>
   have h1 := (h.ok.obj.kbox i b vs κ hb hv hk).2
   obtain ⟨c, hc⟩ : ∃ c, cs[0]? = some c := by
    cases cs with
    | nil => exact absurd rfl hfz.ne
    | cons c r => exact ⟨c, rfl⟩
   have h2 := hsees 0 c hc
   rw [Re, <- List.head?_eq_getElem?, h1] at h2
   exact (hfz.first hc h2).elim
 have hbn := (h.ok.box i b vs hb hv).2.2.1 hvne
 obtain ⟨G', hE, hW, keepB, hbv, hSF⟩ : ∃ G', Ext G G' /\ WorldOk G' w /\ (∀ (x : Nat) (B : Buf), G.bufs x = some B -> G'.bufs x = some B) /\ G'.boxv = G.boxv.set i [] /\ ∀ (y : AV) (x : Value), Sees G y x -> Sees G' (y.frz i cs) x := by
  by_cases hbr : G.base i <= G.room b
  ·obtain ⟨pre, hpre⟩ : ∃ pre : List Value, pre = (RM (G.base i)).map fun j => (w.cell? ⟨b, j, none⟩).getD undef := ⟨_, rfl⟩
   have hp : pre.length = G.base i := by rw [hpre]; simp
   have hpc : ∀ (j : Nat) (x : Value), pre[j]? = some x -> w.cell? ⟨b, j, none⟩ = some x /\ w.frozen? ⟨b, j, none⟩ = false := fun j x hj => by
    have hjl : j < G.base i := by rw [<- hp]; exact (Q7.1 hj).1
    obtain ⟨q1, q2⟩ := h.ok.obj.room b j (by omega)
    refine ⟨?_, q2⟩
    rw [hpre, Rw, RP hjl] at hj
    injection hj with hj
    rw [<- hj]
    show _ = some ((w.cell? ⟨b, j, none⟩).getD undef)
    cases hc : w.cell? ⟨b, j, none⟩ with
    | none => rw [hc] at q1; cases q1
    | some y => rfl
   refine ⟨G.frz i b pre vs, Ext.frz hbn, h.ok.frz hb hkn hv hvne hp hpc, fun x B hB => ?_, rfl, fun y x hs => hs.frz h.ok hp hb hv hvne hl hone hsees⟩
   have hne : x ≠ b := fun e => by subst e; rw [hbn] at hB; cases hB
   show (if x = b then _ else G.bufs x) = _
   rw [if_neg hne, hB]
  ·refine ⟨G.setBox i [], Ext.setBox i [], h.ok.blank hb hkn, fun x B hB => hB, rfl, fun y x hs => ?_⟩
   have hs2 := hs.ext (Ext.setBox (G := G) i [])
   cases y with
   | bsl j off k n =>
    show Sees _ (if j = i /\ off + n * k <= cs.length then AV.sl k (bO k n ((cs.drop off).take (n * k))) (some false) .no else AV.bsl j off k n) x
    by_cases hc : j = i /\ off + n * k <= cs.length
    ·exfalso
     obtain ⟨rfl, _⟩ := hc
     cases hs with
     | bsl _ _ _ _ b' cap hb' hcap hm o2 ho2 =>
      have e := hb'.1
      rw [hb] at e; injection e with e; subst e
      omega
    ·rw [if_neg hc]; exact hs2
   | _ => exact hs2
 have at_ : ∀ (j : Nat) (ds : List AV) (us : List Value), (s.heap.set i [])[j]? = some ds -> (G.boxv.set i [])[j]? = some us -> (ds = [] /\ us = []) \/ (s.heap[j]? = some ds /\ G.boxv[j]? = some us) := fun j ds us e1 e2 => by
  rw [Rk] at e1 e2
  by_cases e : i = j
  ·subst e
   rw [if_pos rfl, if_pos hil] at e1
   rw [if_pos rfl, if_pos hiv] at e2
   injection e1 with e1; injection e2 with e2
   exact .inl ⟨e1.symm, e2.symm⟩
  ·rw [if_neg e] at e1 e2
   exact .inr ⟨e1, e2⟩
 refine ⟨G', hW, ⟨by rw [hbv]; show (s.heap.set i []).length = (G.boxv.set i []).length; rw [RG, RG]; exact h.heap.1, fun j ds us e1 e2 => ?_⟩, fun j ds us e1 e2 p c hp => ?_, fun t ht => ?_, fun t ht => ?_, h.size, h.defers.ext hE, h.ext.trans hE, fun j hj hn => ?_, fun x B hB hT => keepB x B (h.bufs x B hB hT)⟩
 ·rw [hbv] at e2
  rcases at_ j ds us e1 e2 with ⟨rfl, rfl⟩ | ⟨e3, e4⟩
  ·exact ⟨rfl, fun x hx => (by cases hx), fun p c hp => by simp at hp⟩
  ·obtain ⟨f1, f2, f3⟩ := h.heap.2 j ds us e3 e4
   exact ⟨f1, f2, fun p c hp => (f3 p c hp).ext hE⟩
 ·rw [hbv] at e2
  rcases at_ j ds us e1 e2 with ⟨rfl, rfl⟩ | ⟨e3, e4⟩
  ·simp at hp
  ·obtain ⟨f1, f2⟩ := h.ownh j ds us e3 e4 p c hp
   exact ⟨f1.keep fun b B c hb _ => keepB b B hb, f2⟩
 ·obtain ⟨f1, f2⟩ := h.env t ht
  rw [St.frz_look]
  unfold St.look at f1 f2
  split
  ·rename_i x hx
   rw [hx] at f1 f2
   exact ⟨f1.ext hE, f2.keep fun b B c hb _ => keepB b B hb⟩
  ·rename_i hx
   rw [hx] at f1 f2
   dsimp only at f1 f2
   have hp := h.plain t hx
   unfold St.look at hp
   rw [hx] at hp
   dsimp only at hp
   split
   ·rename_i x hx2
    rw [hx2] at f1 f2 hp
    exact ⟨hSF _ _ f1, .none _ (AZ i cs x hp)⟩
   ·exact ⟨.any _, trivial⟩
 ·have hp := h.plain t ht
  unfold St.look at hp
  have ht' : find s.own t = none := ht
  rw [St.frz_look, ht']
  rw [ht'] at hp
  dsimp only at hp ⊢
  split
  ·rename_i x hx
   rw [hx] at hp
   exact AZ i cs x hp
  ·rfl
 ·rw [hbv]
  show (G.boxv.set i [])[j]? = _
  rw [Rk, if_neg (by omega)]
  exact h.boxes j hj hn
end
def LeqF (m : Nat) (s s2 : St) : Prop := Leq m s s2 \/ ∃ (i : Nat) (cs : List AV), m <= i /\ s.heap[i]? = some cs /\ frzOk cs /\ Leq m (s.frz i cs) s2
theorem LeqF.rel {C : Ctx} {N m : Nat} {s s' : St} (h : LeqF m s s') (hm : C.G0.boxv.length = m) (hm2 : C.G0.boxes.length = m) {G : Ghost} {cls : Nat -> Id} {a : Act} {w : World} (hR : Rel C N G cls s a w) : ∃ G', Rel C N G' cls s' a w := by
 rcases h with h | ⟨i, cs, h1, h2, h3, h4⟩
 ·exact h.rel hm hm2 hR
 ·obtain ⟨G2, hR2⟩ := hR.frz (by omega) h2 h3
  exact h4.rel hm hm2 hR2
theorem cE {n : Nat} : ∀ {l : List AV}, (∀ (j : Nat) (c : AV), l[j]? = some c -> c.lt n) -> cg n l
 | [], _ => trivial
 | _ :: _, h => ⟨h 0 _ rfl, cE fun j c hj => h (j + 1) c (by simpa using hj)⟩
theorem iR {n : Nat} : ∀ {l : List (List AV)}, (∀ (j : Nat) (e : List AV), l[j]? = some e -> cg n e) -> aR n l
 | [], _ => trivial
 | _ :: _, h => ⟨h 0 _ rfl, iR fun j c hj => h (j + 1) c (by simpa using hj)⟩
theorem Sees.lt {G : Ghost} {a : AV} {x : Value} (h : Sees G a x) : a.lt G.boxes.length := by
 induction h with
 | v x => trivial
 | any x => trivial
 | box i off b hb => exact (Q7.1 hb.1).1
 | ro cs b o u hc hs h1 ih => exact cE ih
 | sl k es nul room a len cap u hlen hn hk hcap hm hr hc hs h1 ih => exact iR fun i e he => cE (ih i e he)
 | fn f first cap us vs h1 h2 hs1 hs2 ih1 ih2 => exact ⟨cE ih1, cE ih2⟩
 | agg cs us hl0 hs h1 ih => exact cE ih
 | tup cs us hl0 hs ih => exact cE ih
 | bsl i off k n b cap hb hcap hm => exact (Q7.1 hb.1).1
 | yld i b r c slots hb hk hl hs ih => exact ⟨(Q7.1 hb).1, cE ih⟩
 | mp i b n one hb hk => exact (Q7.1 hb).1
 | ifc t a x h ih => exact ih
 | itr i b n one im mb hb hk hm =>
  refine ⟨(Q7.1 hb).1, ?_⟩
  cases im with
  | none => trivial
  | some j => obtain ⟨b', _, h2, _⟩ := hm; exact (Q7.1 h2).1
def bf (b d : Bool) : List AV := [.v (.chan none), .v (.bool b), .v (.bool d)]
def eu (b d : Bool) : List Value := [.chan none, .bool b, .bool d]
theorem cU {G : Ghost} {h : List (List AV)} (hS : db G h) {i : Nat} {b d : Bool} (hi : h[i]? = some (bf b d)) : G.boxv[i]? = some (eu b d) := by
 have hlt : i < G.boxv.length := by rw [<- hS.1]; exact (Q7.1 hi).1
 obtain ⟨h1, _, h2⟩ := hS.2 i _ _ hi (Q8 hlt)
 rw [Q8 hlt]
 have e0 := (h2 0 _ rfl).inv_v
 have e1 := (h2 1 _ rfl).inv_v
 have e2 := (h2 2 _ rfl).inv_v
 generalize G.boxv[i] = vs at h1 e0 e1 e2 ⊢
 match vs, h1 with
 | [x, y, z], _ => simp at e0 e1 e2; subst e0 e1 e2; rfl
theorem WorldOk.turn {G : Ghost} {w : World} (h : WorldOk G w) {i b : Nat} {r : Loop} {c : Code} (hb : G.boxes[i]? = some b) (hk : G.kinds b = some (.loop r c)) {us : List Value} (hv : G.boxv[i]? = some us) (x y : Bool) :
  WorldOk (G.setBox i (eu x y)) (w.putObj b ((Kind.loop r c).obj (eu x y))) := h.turnK hb hk hv _ rfl
theorem WorldOk.putAway {G : Ghost} {w : World} (h : WorldOk G w) {i b : Nat} {r : Loop} {c : Code} (hb : G.boxes[i]? = some b) (hk : G.kinds b = some (.loop r c)) {us : List Value} (hv : G.boxv[i]? = some us) (o' : Obj) :
  WorldOk (G.trunc i) (w.putObj b o') := by
 obtain ⟨b1, b2, b3, _⟩ := h.box i b us hb hv
 obtain ⟨q1, q2⟩ := h.obj.kbox i b us _ hb hv hk
 have hne : us ≠ [] := fun e => by subst e; cases q2
 have hbf := b3 hne
 have oth : ∀ b', b' ≠ b -> ∀ j, (w.putObj b o').cell? ⟨b', j, none⟩ = w.cell? ⟨b', j, none⟩ /\ (w.putObj b o').frozen? ⟨b', j, none⟩ = w.frozen? ⟨b', j, none⟩ := fun b' hb' j => by
  have := World.putObj_heap_other (w := w) (o := o') hb'
  exact ⟨World.cell?_of_block (a := ⟨b', j, none⟩) this, World.frozen?_of_block (a := ⟨b', j, none⟩) this⟩
 have old : ∀ {α : Type} (l : List α) (i' : Nat) (z : α), (l.take i)[i']? = some z -> l[i']? = some z /\ i' < i := fun l i' z e => by
  rw [Ra] at e
  split at e
  ·rename_i hl; exact ⟨e, hl⟩
  ·cases e
 have ht := h.trunc i
 refine ⟨h.below.trans ⟨rfl, rfl, rfl, by simp, fun k hk => World.putObj_heap_other (by have := h.below.size; omega)⟩, fun b' B hB => ?_, fun i' b' us' h1 h2 => ?_, ht.nodup2, ht.len, fun b' o ho => ?_, fun i' b' us' κ h1 h2 h3 => ?_, fun b' hb' => ?_, fun b' j hj => ?_⟩
 ·obtain ⟨p1, p2, p3, p4, p5⟩ := h.buf b' B hB
  have hbb : b' ≠ b := fun e => by subst e; rw [show G.bufs b' = some B from hB] at hbf; cases hbf
  exact ⟨p1, by simpa using p2, p3, fun j hj => by rw [(oth b' hbb _).1, (oth b' hbb _).2]; exact p4 j hj, fun j z hz => by rw [(oth b' hbb j).1]; exact p5 j z hz⟩
 ·obtain ⟨h1, hlt⟩ := old G.boxes i' b' h1
  obtain ⟨h2, _⟩ := old G.boxv i' us' h2
  obtain ⟨p1, p2, p3, p4⟩ := h.box i' b' us' h1 h2
  by_cases hn' : us' = []
  ·subst hn'
   exact ⟨p1, by simpa using p2, p3, fun j z hz => by simp at hz⟩
  have hbb : b' ≠ b := fun e => by
   subst e
   have := h.nodup.other hb h1 (by omega) hv hne
   rw [h2] at this; injection this with this; exact hn' this
  exact ⟨p1, by simpa using p2, p3, fun j z hz hkn => by rw [(oth b' hbb _).1, (oth b' hbb _).2]; exact p4 j z hz hkn⟩
 ·obtain ⟨p1, p2, p3⟩ := h.obj.obj b' o ho
  have hbb : b' ≠ b := fun e => by subst e; rw [q1] at p1; injection p1 with p1; exact p3 _ _ p1.symm
  exact ⟨(World.putObj_heap_other hbb).trans p1, p2, p3⟩
 ·obtain ⟨h1, hlt⟩ := old G.boxes i' b' h1
  obtain ⟨h2, _⟩ := old G.boxv i' us' h2
  obtain ⟨p1, p2⟩ := h.obj.kbox i' b' us' κ h1 h2 h3
  have hbb : b' ≠ b := fun e => by
   subst e
   have := h.nodup.other hb h1 (by omega) hv hne
   rw [h2] at this; injection this with this; subst this; cases p2
  exact ⟨(World.putObj_heap_other hbb).trans p1, p2⟩
 ·simpa using h.obj.kind b' hb'
 ·have p := h.obj.room b' j hj
  have hbb : b' ≠ b := fun e => by subst e; exact xw q1 (Kind.noCells _ us) p.1
  rw [(oth b' hbb j).1, (oth b' hbb j).2]; exact p
def Ghost.enterLoop (G : Ghost) (D : Nat) (r : Loop) (c : Code) : Ghost := { G with boxes := G.boxes ++ [D + 1], boxv := G.boxv ++ [eu false false], objs := fun b => if b = D then some (.deferred (some [])) else G.objs b, kr := fun b => if b = D + 1 then (some (.loop r c), 0) else G.kr b }
theorem WorldOk.enterLoop {G : Ghost} {w : World} (h : WorldOk G w) (r : Loop) (c : Code) (hr : r.state = .ready) (hp : r.pending = none) :
  WorldOk (G.enterLoop w.heap.size r c) ((w.alloc (.deferred (some []))).alloc (.loop r)) /\ Ext G (G.enterLoop w.heap.size r c) := by
 have old : ∀ b, b < w.heap.size -> ((w.alloc (.deferred (some []))).alloc (.loop r)).heap[b]? = w.heap[b]? := fun b hb => (heap_alloc_old _ _ (by simp; omega)).trans (heap_alloc_old w _ hb)
 have oldc : ∀ b, b < w.heap.size -> ∀ j, ((w.alloc (.deferred (some []))).alloc (.loop r)).cell? ⟨b, j, none⟩ = w.cell? ⟨b, j, none⟩ /\ ((w.alloc (.deferred (some []))).alloc (.loop r)).frozen? ⟨b, j, none⟩ = w.frozen? ⟨b, j, none⟩ := fun b hb j =>
  ⟨World.cell?_of_block (a := ⟨b, j, none⟩) (old b hb), World.frozen?_of_block (a := ⟨b, j, none⟩) (old b hb)⟩
 have hD : ((w.alloc (.deferred (some []))).alloc (.loop r)).heap[w.heap.size]? = some (.deferred (some [])) := (heap_alloc_old _ _ (by simp)).trans (heap_alloc_new w _)
 have hL : ((w.alloc (.deferred (some []))).alloc (.loop r)).heap[w.heap.size + 1]? = some (.loop r) := by
  have := heap_alloc_new (w.alloc (.deferred (some []))) (.loop r)
  rwa [World.size_alloc] at this
 have hsz : ((w.alloc (.deferred (some []))).alloc (.loop r)).heap.size = w.heap.size + 2 := by simp
 have hlow := h.below.size
 have hnb : ∀ b B, G.bufs b = some B -> b < w.heap.size := fun b B hB => (h.buf b B hB).2.1
 have at_ : ∀ i b us, (G.boxes ++ [w.heap.size + 1])[i]? = some b -> (G.boxv ++ [eu false false])[i]? = some us -> (G.boxes[i]? = some b /\ G.boxv[i]? = some us /\ b < w.heap.size) \/ (b = w.heap.size + 1 /\ us = eu false false) := fun i b us h1 h2 => by
  by_cases hi : i < G.boxes.length
  ·left
   rw [Q9 hi] at h1
   rw [Q9 (by rw [h.len]; exact hi)] at h2
   exact ⟨h1, h2, (h.boxlt h1).1⟩
  ·right
   have hi2 : i = G.boxes.length := by
    have := (Q7.1 h1).1
    simp at this; omega
   subst hi2
   simp at h1
   rw [<- h.len] at h2
   simp at h2
   exact ⟨h1.symm, h2.symm⟩
 have krold : ∀ b, b < w.heap.size -> (G.enterLoop w.heap.size r c).kr b = G.kr b := fun b hb => by
  show (if b = w.heap.size + 1 then _ else G.kr b) = _
  rw [if_neg (by omega)]
 have kold : ∀ b, b < w.heap.size -> (G.enterLoop w.heap.size r c).kinds b = G.kinds b := fun b hb => congrArg Prod.fst (krold b hb)
 refine ⟨⟨(h.below.alloc hlow _).alloc (by simp; omega) _, fun b B hB => ?_, fun i b us h1 h2 => ?_, ⟨?_, h.dom⟩, by simp [Ghost.enterLoop, h.len], fun b o ho => ?_, fun i b us κ h1 h2 h3 => ?_, fun b hb => ?_, fun b j hj => ?_⟩, rfl, fun b B hB => ⟨[], by show G.bufs b = _; rw [hB, Rm]⟩, ⟨_, rfl⟩, fun b o ho => ?_, fun i b hb => ⟨krold b (h.boxlt hb).1, rfl⟩⟩
 ·obtain ⟨p1, p2, p3, p4, p5⟩ := h.buf b B hB
  exact ⟨p1, by rw [hsz]; omega, p3, fun j hj => by rw [(oldc b p2 j).1, (oldc b p2 j).2]; exact p4 j hj, fun j x hx => by rw [(oldc b p2 j).1]; exact p5 j x hx⟩
 ·rcases at_ i b us h1 h2 with ⟨h3, h4, h5⟩ | ⟨rfl, rfl⟩
  ·obtain ⟨p1, p2, p3, p4⟩ := h.box i b us h3 h4
   exact ⟨p1, by rw [hsz]; omega, p3, fun j x hx hkn => by rw [(oldc b p2 _).1, (oldc b p2 _).2]; exact p4 j x hx ((kold b h5).symm.trans hkn)⟩
  ·refine ⟨by show G.w0.heap.size <= _; omega, by rw [hsz]; omega, fun _ => ?_, fun j x hx hkn => ?_⟩
   ·cases hB : G.bufs (w.heap.size + 1) with
    | none => exact hB
    | some B => have := hnb _ _ hB; omega
   ·have hkn' : (if w.heap.size + 1 = w.heap.size + 1 then (some (Kind.loop r c), 0) else G.kr (w.heap.size + 1)).1 = none := hkn
    rw [if_pos rfl] at hkn'; cases hkn'
 ·exact h.nodup.snoc h.len (fun i hi => by have := (h.boxlt hi).1; omega) _
 ·have ho' : (if b = w.heap.size then some (.deferred (some [])) else G.objs b) = some o := ho
  split at ho'
  ·rename_i e; subst e
   injection ho' with ho'; subst ho'
   exact ⟨hD, rfl, fun κ vs => κ.notDeferred vs _⟩
  ·obtain ⟨p1, p2, p3⟩ := h.obj.obj b o ho'
   exact ⟨(old b (Rg.1 p1).1).trans p1, p2, p3⟩
 ·rcases at_ i b us h1 h2 with ⟨h4, h5, h6⟩ | ⟨rfl, rfl⟩
  ·obtain ⟨p1, p2⟩ := h.obj.kbox i b us κ h4 h5 ((kold b h6).symm.trans h3)
   exact ⟨(old b h6).trans p1, p2⟩
  ·have h3' : (if w.heap.size + 1 = w.heap.size + 1 then (some (Kind.loop r c), 0) else G.kr (w.heap.size + 1)).1 = some κ := h3
   rw [if_pos rfl] at h3'
   injection h3' with h3'; subst h3'
   refine ⟨hL.trans ?_, rfl⟩
   show some (Obj.loop r) = some (.loop { r with state := .ready, pending := none })
   rw [<- hr, <- hp]
 ·rw [hsz]
  have hb' : (if b = w.heap.size + 1 then (some (Kind.loop r c), 0) else G.kr b).1 ≠ none := hb
  split at hb'
  ·omega
  ·have := h.obj.kind b hb'; omega
 ·have hj' : j < (if b = w.heap.size + 1 then (some (Kind.loop r c), 0) else G.kr b).2 := hj
  split at hj'
  ·exact absurd hj' (RX _)
  ·have p := h.obj.room b j hj'
   have := fw p.1
   rw [(oldc b this j).1, (oldc b this j).2]; exact p
 ·show (if b = w.heap.size then _ else G.objs b) = some o
  rw [if_neg (fun e => by subst e; have := (Rg.1 (h.obj.obj _ o ho).1).1; omega)]
  exact ho
section
variable {C : Ctx} {N : Nat} {G : Ghost} {cls : Nat -> Id} {s : St} {a : Act} {w : World}
theorem jE (x y : Bool) : ∀ v ∈ eu x y, v.oneCell' = true := by
 intro v hv
 simp [eu] at hv
 rcases hv with rfl | rfl | rfl <;> rfl
theorem mJ (x y : Bool) : SeesL G (bf x y) (eu x y) := SeesL.cons (.v _) (SeesL.cons (.v _) (SeesL.cons (.v _) SeesL.nil))
theorem qJ (x y : Bool) : ∀ c ∈ bf x y, c.idOf = none := by
 intro c hc
 simp [bf] at hc
 rcases hc with rfl | rfl | rfl <;> rfl
def St.turn (s : St) (i : Nat) (x y : Bool) : St := { s with heap := s.heap.set i (bf x y), wr := i :: s.wr }
theorem Rel.turn (h : Rel C N G cls s a w) {i b : Nat} {r : Loop} {c : Code} (hb : G.boxes[i]? = some b) (hk : G.kinds b = some (.loop r c)) {x y : Bool} (hc : s.heap[i]? = some (bf x y)) (x' y' : Bool) :
  Rel C N (G.setBox i (eu x' y')) cls (s.turn i x' y') a (w.putObj b ((Kind.loop r c).obj (eu x' y'))) := by
 have hus := cU h.heap hc
 have hE := Ext.setBox (G := G) i (eu x' y')
 have hil : i < s.heap.length := (Q7.1 hc).1
 have hil2 : i < G.boxv.length := (Q7.1 hus).1
 have at_ : ∀ (i' : Nat) (ds : List AV) (vs : List Value), (s.heap.set i (bf x' y'))[i']? = some ds -> (G.boxv.set i (eu x' y'))[i']? = some vs -> (i' = i /\ ds = bf x' y' /\ vs = eu x' y') \/ (i' ≠ i /\ s.heap[i']? = some ds /\ G.boxv[i']? = some vs) := fun i' ds vs e1 e2 => by
  rw [Rk] at e1 e2
  by_cases hi : i = i'
  ·subst hi
   rw [if_pos rfl, if_pos hil] at e1
   rw [if_pos rfl, if_pos hil2] at e2
   injection e1 with e1; injection e2 with e2
   exact .inl ⟨rfl, e1.symm, e2.symm⟩
  ·rw [if_neg hi] at e1 e2
   exact .inr ⟨fun hh => hi hh.symm, e1, e2⟩
 refine h.next hE (h.ok.turn hb hk hus x' y') (fun b B hB => hB) ⟨by simp [Ghost.setBox, h.heap.1], fun i' ds vs e1 e2 => ?_⟩ (fun i' ds vs e1 e2 j c hj => ?_) (fun i' hi' hn => ?_)
 ·rcases at_ i' ds vs e1 e2 with ⟨rfl, rfl, rfl⟩ | ⟨_, h3, h4⟩
  ·exact ⟨rfl, jE _ _, (mJ x' y').2⟩
  ·obtain ⟨h5, h6, h7⟩ := h.heap.2 i' ds vs h3 h4
   exact ⟨h5, h6, fun j c hj => (h7 j c hj).ext hE⟩
 ·rcases at_ i' ds vs e1 e2 with ⟨rfl, rfl, rfl⟩ | ⟨_, h3, h4⟩
  ·have := qJ x' y' c (Rb hj)
   exact ⟨.none _ this, fun x hx => by rw [this] at hx; cases hx⟩
  ·obtain ⟨h5, h6⟩ := h.ownh i' ds vs h3 h4 j c hj
   exact ⟨h5.keep fun b B c hb _ => hb, h6⟩
 ·have hne : i ≠ i' := fun e => hn (by subst e; exact Rf ..)
  show (G.boxv.set i _)[i']? = _
  rw [Rk, if_neg hne]
  exact h.boxes i' hi' fun hh => hn (Rh _ hh)
theorem Rel.leaveLoop (h : Rel C N G cls s a w) {i b : Nat} {r : Loop} {c : Code} (hb : G.boxes[i]? = some b) (hk : G.kinds b = some (.loop r c)) {x y : Bool} (hc : s.heap[i]? = some (bf x y)) (hm : C.G0.boxv.length <= i) (hm2 : C.G0.boxes.length <= i)
  (hlook : ∀ t, t < N -> (s.look t).lt i) (hlt : aR i (s.heap.take i)) (o : Obj) : Rel C N (G.trunc i) cls { s with heap := s.heap.take i } a (w.putObj b o) := by
 have hus := cU h.heap hc
 have old : ∀ {α : Type} (l : List α) (i' : Nat) (z : α), (l.take i)[i']? = some z -> l[i']? = some z /\ i' < i := fun l i' z e => by
  rw [Ra] at e
  split at e
  ·rename_i hl; exact ⟨e, hl⟩
  ·cases e
 refine ⟨h.ok.putAway hb hk hus o, ⟨?_, fun i' cs vs e1 e2 => ?_⟩, fun i' cs vs e1 e2 j c hj => ?_, fun t ht => ?_, h.plain, h.size, h.defers, ⟨h.ext.w0, h.ext.bufs, ?_, h.ext.objs⟩, fun i' hi' hn => ?_, h.bufs⟩
 ·show (s.heap.take i).length = (G.boxv.take i).length
  simp [h.heap.1]
 ·obtain ⟨e3, hi⟩ := old s.heap i' cs e1
  obtain ⟨e4, _⟩ := old G.boxv i' vs e2
  obtain ⟨h5, h6, h7⟩ := h.heap.2 i' cs vs e3 e4
  exact ⟨h5, h6, fun j c hj => (h7 j c hj).trunc (cd (dV hlt i' cs e1) j c hj)⟩
 ·obtain ⟨e3, hi⟩ := old s.heap i' cs e1
  obtain ⟨e4, _⟩ := old G.boxv i' vs e2
  obtain ⟨h5, h6⟩ := h.ownh i' cs vs e3 e4 j c hj
  exact ⟨h5.keep fun b B c hb _ => hb, h6⟩
 ·obtain ⟨h5, h6⟩ := h.env t ht
  exact ⟨h5.trunc (hlook t ht), h6.keep fun b B c hb _ => hb⟩
 ·obtain ⟨more, hmore⟩ := h.ext.boxes
  exact ⟨more.take (i - C.G0.boxes.length), by show G.boxes.take _ = _; rw [hmore, RV, RI hm2]⟩
 ·show (G.boxv.take i)[i']? = _
  rw [Ra, if_pos (by omega)]
  exact h.boxes i' hi' hn
theorem Rel.enterLoop (h : Rel C N G cls s a w) (r : Loop) (c : Code) (hr : r.state = .ready) (hp : r.pending = none) :
  Rel C N (G.enterLoop w.heap.size r c) cls { s with heap := s.heap ++ [bf false false] } { a with defers := fe w.heap.size :: a.defers } ((w.alloc (.deferred (some []))).alloc (.loop r)) := by
 obtain ⟨hW, hE⟩ := h.ok.enterLoop r c hr hp
 have at_ : ∀ (i : Nat) (ds : List AV) (us : List Value), (s.heap ++ [bf false false])[i]? = some ds -> (G.boxv ++ [eu false false])[i]? = some us -> (s.heap[i]? = some ds /\ G.boxv[i]? = some us) \/ (ds = bf false false /\ us = eu false false) := fun i ds us h1 h2 => by
  by_cases hl : i < s.heap.length
  ·left
   rw [Q9 hl] at h1
   rw [Q9 (by rw [<- h.heap.1]; exact hl)] at h2
   exact ⟨h1, h2⟩
  ·right
   have hl2 : i = s.heap.length := by
    have := (Q7.1 h1).1
    simp at this; omega
   subst hl2
   simp at h1
   rw [h.heap.1] at h2
   simp at h2
   exact ⟨h1.symm, h2.symm⟩
 have h1 := h.next (hp := s.heap ++ [bf false false]) (wr := s.wr) hE hW (fun b B hb => hb) ⟨by simp [Ghost.enterLoop, h.heap.1], fun i ds us h8 h9 => ?_⟩ (fun i ds us h8 h9 j c hj => ?_) (fun i hi2 hw => ?_)
 ·obtain ⟨Ds, d1, d2, d3⟩ := h1.defers
  refine ⟨h1.ok, h1.heap, h1.ownh, h1.env, h1.plain, h1.size, ⟨w.heap.size :: Ds, by show _ = _ :: _; rw [<- d1], R0.2 ⟨fun hm => ?_, d2⟩, fun D hD => ?_⟩, h1.ext, h1.boxes, h1.bufs⟩
  ·obtain ⟨Ds', e1, e2, e3⟩ := h.defers
   have : Ds' = Ds := jZ (e1.symm.trans d1)
   subst this
   have := (Rg.1 (h.ok.obj.obj _ _ (e3 _ hm).1).1).1
   omega
  ·rcases Rp.1 hD with rfl | hD
   ·refine ⟨by show (if _ then _ else _) = _; rw [if_pos rfl], ?_, h.ok.below.size⟩
    cases ho : C.G0.objs w.heap.size with
    | none => rfl
    | some o => have := (Rg.1 (h.ok.obj.obj _ _ (h.ext.objs.1 _ o ho)).1).1; omega
   ·exact d3 D hD
 ·rcases at_ i ds us h8 h9 with ⟨h3, h4⟩ | ⟨rfl, rfl⟩
  ·obtain ⟨h5, h7, h6⟩ := h.heap.2 i ds us h3 h4
   exact ⟨h5, h7, fun j c hj => (h6 j c hj).ext hE⟩
  ·exact ⟨rfl, jE _ _, (mJ _ _).2⟩
 ·rcases at_ i ds us h8 h9 with ⟨h3, h4⟩ | ⟨rfl, rfl⟩
  ·obtain ⟨h5, h6⟩ := h.ownh i ds us h3 h4 j c hj
   exact ⟨h5.keep fun b B c hb _ => hb, h6⟩
  ·have := qJ false false c (Rb hj)
   exact ⟨.none _ this, fun x hx => by rw [this] at hx; cases hx⟩
 ·obtain ⟨m, hm⟩ := h.ext.boxes
  have hlt : i < G.boxv.length := by
   have h1 := h.ok.len
   rw [hm] at h1
   simp at h1
   by_cases hh : i < G.boxv.length
   ·exact hh
   ·have h2 := h.boxes i hi2 hw
    rw [RJ (by omega), Q8 hi2] at h2
    cases h2
  show (G.boxv ++ [_])[i]? = _
  rw [Q9 hlt]
  exact h.boxes i hi2 hw
end
def ja : List (Nat × AV) -> List (Nat × AV)
 | [] => []
 | (k, a) :: r => (k, a.unown) :: ja r
def St.round (s : St) (ps : List Nat) (args : List AV) (h : List (List AV)) : St := ⟨ps.zip args ++ (ja s.own ++ s.env), [], h, []⟩
theorem iL (t : Nat) : ∀ l m : List (Nat × AV), find (l ++ m) t = (match find l t with | some a => some a | none => find m t)
 | [], m => rfl
 | (k, a) :: r, m => by
  show (if k = t then some a else find (r ++ m) t) = (match (if k = t then some a else find r t) with | some a => some a | none => find m t)
  split
  ·rfl
  ·exact iL t r m
theorem mB (t : Nat) : ∀ l : List (Nat × AV), find (ja l) t = (find l t).map AV.unown
 | [] => rfl
 | (k, a) :: r => by
  unfold ja find
  split
  ·rfl
  ·exact mB t r
theorem nZ {s : St} (hp : ∀ t, find s.own t = none -> (s.look t).idOf = none) (ps : List Nat) (args : List AV) (h : List (List AV)) (t : Nat) : (s.round ps args h).look t = (match find (ps.zip args) t with | some x => x | none => (s.look t).unown) := by
 have e : (s.round ps args h).look t = (match find (ps.zip args ++ (ja s.own ++ s.env)) t with | some a => a | none => .any) := rfl
 rw [e, iL]
 cases find (ps.zip args) t with
 | some x => rfl
 | none =>
  dsimp only
  rw [iL, mB]
  have hp := hp t
  unfold St.look at hp ⊢
  cases ho : find s.own t with
  | some a => rfl
  | none =>
   rw [ho] at hp
   have hp := hp rfl
   dsimp only [Option.map] at hp ⊢
   cases he : find s.env t with
   | some a => rw [he] at hp; exact (AV.unown_of hp).symm
   | none => rfl
def slotsOf (N : Nat) (s : St) : List AV := (RM N).map fun t => (s.look t).unown
theorem mM (N : Nat) (s : St) (t : Nat) (ht : t < N) : (slotsOf N s)[t]? = some (s.look t).unown := by
 unfold slotsOf
 rw [Rw, RP ht]; rfl
def nodupB : List Nat -> Bool
 | [] => true
 | a :: r => !r.contains a && nodupB r
theorem jB (t : Nat) : ∀ (ps : List Nat) (args : List AV), t ∉ ps -> find (ps.zip args) t = none
 | [], _, _ => rfl
 | p :: ps, [], _ => rfl
 | p :: ps, x :: args, h => by
  rw [Rv]
  unfold find
  rw [if_neg (fun e => h (by subst e; exact Rf ..))]
  exact jB t ps args fun hh => h (Rh _ hh)
theorem qB {G : Ghost} : ∀ (ps : List Nat) (args : List AV) (vs : List Value) (tmps : Array Value) (look : Nat -> AV), nodupB ps = true -> SeesL G args vs -> ps.length = args.length -> (∀ p ∈ ps, p < tmps.size) -> (∀ t, t < tmps.size -> Sees G (look t) (tmps.getD t undef)) ->
  ((ps.zip vs).foldl (fun (tmps : Array Value) (p : Nat × Value) => tmps.setIfInBounds p.1 p.2) tmps).size = tmps.size /\ ∀ t, t < tmps.size -> Sees G (match find (ps.zip args) t with | some x => x | none => look t) (((ps.zip vs).foldl (fun (tmps : Array Value) (p : Nat × Value) => tmps.setIfInBounds p.1 p.2) tmps).getD t undef)
 | [], _, _, tmps, look, _, _, _, _, hl => by
  exact ⟨rfl, fun t ht => hl t ht⟩
 | p :: ps, [], _, _, _, _, _, h, _, _ => by simp at h
 | p :: ps, x :: args, [], _, _, _, hs, _, _, _ => by have := hs.1; simp at this
 | p :: ps, x :: args, v :: vs, tmps, look, hn, hs, hl, hp, hlook => by
  unfold nodupB at hn
  rw [Rj] at hn
  obtain ⟨h1, h2⟩ := hs.tail
  have hps : p < tmps.size := hp p (Rf ..)
  obtain ⟨e1, e2⟩ := qB ps args vs (tmps.setIfInBounds p v) (fun t => if p = t then x else look t) hn.2 h2 (by simpa using hl) (fun q hq => by simpa using hp q (Rh _ hq)) (fun t ht => by
   have ht : t < tmps.size := by simpa using ht
   by_cases hpt : p = t
   ·subst hpt
    rw [if_pos rfl]
    have : (tmps.setIfInBounds p v).getD p undef = v := by rw [Rc, Array.getElem?_setIfInBounds_self_of_lt hps]; rfl
    rw [this]; exact h1
   ·rw [if_neg hpt]
    have : (tmps.setIfInBounds p v).getD t undef = tmps.getD t undef := by rw [Rc, Array.getElem?_setIfInBounds_ne hpt, <- Rc]
    rw [this]; exact hlook t ht)
  rw [Rv, Rv, List.foldl_cons]
  refine ⟨by rw [e1]; simp, fun t ht => ?_⟩
  have := e2 t (by simpa using ht)
  unfold find
  by_cases hpt : p = t
  ·subst hpt
   have hnp : p ∉ ps := by simpa using hn.1
   rw [jB p ps args hnp] at this
   rw [if_pos rfl] at this ⊢
   exact this
  ·rw [if_neg hpt]
   rw [if_neg hpt] at this
   exact this
section
variable {P : Program} {N : Nat} {s : St}
theorem Rel.roundStart {G : Ghost} {w : World} {vs : List Value} {cls : Nat -> Id} {h : List (List AV)} {args : List AV} {ps : List Nat} {r : Loop} (hp : ∀ t, find s.own t = none -> (s.look t).idOf = none) (hN : r.tmps.size = N) (hs : ∀ j x, (slotsOf N s)[j]? = some x -> Sees G x (r.tmps.toList.getD j undef))
  (hW : WorldOk G w) (hS : db G h) (hvs : SeesL G args vs) (hid : ∀ y ∈ args, y.idOf = none) (hoh : sU G (fun b c => cls b = c) h) (hnd : nodupB ps = true) (hlen : ps.length = args.length) (hlt : ∀ p ∈ ps, p < N) :
  Rel ⟨G, az G args vs h⟩ N G cls (s.round ps args h) { tmps := (ps.zip vs).foldl (fun (tmps : Array Value) (p : Nat × Value) => tmps.setIfInBounds p.1 p.2) r.tmps, defers := [] } w := by
 obtain ⟨e1, e2⟩ := qB (G := G) ps args vs r.tmps (fun t => (s.look t).unown) hnd hvs hlen (by rw [hN]; exact hlt) (fun t ht => by
  have := hs t _ (mM N s t (by omega))
  have e : r.tmps.toList.getD t undef = r.tmps.getD t undef := by
   rw [Re, Rc]; simp
  rw [e] at this; exact this)
 have hpl : ∀ t, ((s.round ps args h).look t).idOf = none := fun t => by
  rw [nZ hp]
  cases hf : find (ps.zip args) t with
  | none => exact AV.idOf_unown _
  | some x =>
   have : ∀ (ps : List Nat) (args : List AV), (∀ y ∈ args, y.idOf = none) -> find (ps.zip args) t = some x -> x.idOf = none := by
    intro ps
    induction ps with
    | nil => intro args _ hf; cases hf
    | cons p ps ih =>
     intro args hid hf
     cases args with
     | nil => cases hf
     | cons y args =>
      rw [Rv] at hf
      unfold find at hf
      split at hf
      ·injection hf with hf; subst hf; exact hid _ (Rf ..)
      ·exact ih args (fun y hy => hid y (Rh _ hy)) hf
   exact this ps args hid hf
 refine ⟨hW, hS, fun i cs us h1 h2 j c hj => ?_, fun t ht => ⟨?_, .none _ (hpl t)⟩, fun t _ => hpl t, e1.trans hN, Marks.none _ _, Ext.refl G, fun _ _ _ => rfl, fun _ _ hb _ => hb⟩
 ·obtain ⟨h3, h4⟩ := hoh i cs us h1 h2 j c hj
  exact ⟨h3.imp2 fun b y B hB _ _ hcl => ⟨hcl, .inr (.inr ⟨i, cs, us, j, c, h1, h2, hj, hB⟩)⟩, h4⟩
 ·rw [nZ hp]; exact e2 t (by omega)
def stays (n : Nat) (h' : List (List AV)) (wr : List Nat) (s : St) : Prop := n <= h'.length /\ h'.length <= s.heap.length /\ iQ 0 (s.heap.take h'.length) h' /\ aR h'.length h' /\ ∀ i ∈ s.wr, i < n -> i ∈ wr
theorem sY {G : Ghost} {T : Nat -> Prop} {n : Nat} {h' : List (List AV)} {wr : List Nat} (e1 : G.boxv.length = n) (e2 : G.boxes.length = n) {G' : Ghost} {cls' : Nat -> Id} {a' : Act} {w' : World} (hR : Rel ⟨G, T⟩ N G' cls' s a' w') (hL : stays n h' wr s) (x : Value) :
  ∃ G2, After G T (.v x) h' wr x G2 cls' w' := by
 obtain ⟨l2, l3, l6, l7, l8⟩ := hL
 have hq : Leq n { s with env := [], own := [] } ⟨[], [], h', wr⟩ := ⟨l2, l3, l6, l7, trivial, trivial, l8⟩
 have hR0 : Rel ⟨G, T⟩ N G' cls' { s with env := [], own := [] } a' w' :=
  ⟨hR.ok, hR.heap, hR.ownh, fun t ht => ⟨.any _, trivial⟩, fun t ht => rfl, hR.size, hR.defers, hR.ext, hR.boxes, hR.bufs⟩
 obtain ⟨G2, hG2, hR2⟩ := hq.rel' e1 e2 hR0
 exact ⟨G2, hR2.ext, hR2.ok, hR2.heap, fun i cs us h1 h2 j c hj => hR2.ownh i cs us h1 h2 j c hj, .v _, .none _ rfl, fun c hc => (by cases hc), fun i hi hn => hR2.boxes i hi hn, fun b B hb hT => hR2.bufs b B hb hT⟩
theorem mj : ∀ (l : List AV) (k : Nat), (∀ y ∈ l, y.idOf = none) -> bq k l = l
 | [], _, _ => rfl
 | a :: r, k, h => by
  unfold bq
  rw [mj r (k + 1) fun y hy => h y (Rh _ hy)]
  rcases bQ k a with ⟨_, e⟩ | ⟨c, e0, _⟩ | ⟨c, e0, _⟩
  ·rw [e]
  ·rw [h a (Rf ..)] at e0; cases e0
  ·rw [h a (Rf ..)] at e0; cases e0
theorem iM : ∀ (l : List AV), (∀ y ∈ l, y.idOf = none) -> aZ l = []
 | [], _ => rfl
 | a :: r, h => by
  rw [eY, h a (Rf ..)]
  exact iM r fun y hy => h y (Rh _ hy)
def Ks (P : Program) (g : FuncId) (cap : List AV) (n : Nat) (xs : Nat -> List AV) (all : Bool) (R : List (List AV) -> Prop) (E : Nat -> List (List AV)) : Prop :=
 ∀ (i : Nat) (r : Loop) (c : Code) (slots : List AV) (H : Nat -> List (List AV)) (wr : List Nat), (∀ j, j <= n -> R (H j)) ->
  (∀ j, j < n -> lA P i r c slots (xs j) (H j ++ E j) (.v (.bool !(!all && j + 1 == n))) (H (j + 1) ++ E j) wr) -> ae P g (.yld i r c slots :: cap) (H 0) (.tup []) (H n) wr
end
structure Frm where
 h : List (List AV)
 args : List AV
def Frm.plain (m : Frm) : Prop := (∀ x ∈ m.args, x.idOf = none) /\ ∀ cs ∈ m.h, ∀ c ∈ cs, c.idOf = none
theorem gj {G : Ghost} {m : Frm} {vs : List Value} (hp : m.plain) (b : Nat) : ¬ az G m.args vs m.h b := by
 rintro (⟨i, x, h1, h2⟩ | ⟨i, cs, us, j, c, h1, h2, h3, h4⟩)
 ·exact h2.1 (hp.1 x (Rb h1))
 ·exact h4.1 (hp.2 cs (Rb h1) c (Rb h3))
structure Turned (w w' : World) (a : Option Addr) (us' : List Value) : Prop where
 keeps : KeepsOthers w w'
 os : w'.os = w.os
 tape : w'.tape = w.tape
 out : w'.output = w.output
 other : ∀ k, k < w.heap.size -> (∀ b o, a = some ⟨b, o, none⟩ -> k ≠ b) -> w'.heap[k]? = w.heap[k]?
 here : ∀ b o, a = some ⟨b, o, none⟩ -> ∀ j, w'.frozen? ⟨b, j, none⟩ = w.frozen? ⟨b, j, none⟩ /\ w'.cell? ⟨b, j, none⟩ = if o <= j /\ j < o + us'.length then us'[j - o]? else w.cell? ⟨b, j, none⟩
def rB (P : Program) (g : FuncId) (us us' : List Value) : Prop :=
 Enters P g /\ us'.length = us.length /\ (∀ u ∈ us', u.oneCell' = true) /\ ∀ (w : World) (a : Option Addr) (cap : Nat), us.length <= cap ->
  (us ≠ [] -> ∃ b o, a = some ⟨b, o, none⟩ /\ b < w.heap.size /\ ∀ j u, us[j]? = some u -> w.cell? ⟨b, o + j, none⟩ = some u /\ w.frozen? ⟨b, o + j, none⟩ = false) ->
  Calls P g #[.slice a us.length cap] w fun e w' => e = .returned (.tuple #[]) /\ Turned w w' a us'
def ol (n : Nat) : AV -> AV
 | .v x => .v x
 | .box i o => if i < n then .box i o else .any
 | .mp i k o => if i < n then .mp i k o else .any
 | _ => .any
def om (n : Nat) : List (Nat × AV) -> List (Nat × AV)
 | [] => []
 | (t, a) :: r => (t, ol n a) :: om n r
def yn : List (Nat × AV) -> List (Nat × AV)
 | [] => []
 | (t, _) :: r => (t, .any) :: yn r
theorem mz (n t : Nat) : ∀ l : List (Nat × AV), find (om n l) t = (find l t).map (ol n)
 | [] => rfl
 | (k, a) :: r => by
  unfold om find
  split
  ·rfl
  ·exact mz n t r
theorem lG (t : Nat) : ∀ l : List (Nat × AV), find (yn l) t = (find l t).map fun _ => AV.any
 | [] => rfl
 | (k, a) :: r => by
  unfold yn find
  split
  ·rfl
  ·exact lG t r
def St.calm (s : St) (m : List (List AV)) : St := ⟨om m.length s.env, yn s.own, m, s.wr⟩
def St.sorted (s : St) (m : List (List AV)) (t d : Nat) (e : Option Nat) (x : AV) : St := (((s.calm m).put d .any).puts e .any false).putO t x
theorem qH (s : St) (m : List (List AV)) (t : Nat) : (s.calm m).look t = (match find s.own t with
  | some _ => .any
  | none => match find s.env t with
   | some a => ol m.length a
   | none => .any) := by
 unfold St.look St.calm
 dsimp only
 rw [lG, mz]
 cases find s.own t with
 | some a => rfl
 | none => cases find s.env t <;> rfl
theorem qS (n : Nat) (a : AV) : (ol n a).idOf = none := by
 cases a with
 | box i o => show (if i < n then AV.box i o else AV.any).idOf = none; split <;> rfl
 | mp i k o => show (if i < n then AV.mp i k o else AV.any).idOf = none; split <;> rfl
 | _ => rfl
def Ghost.reset (G G0 : Ghost) : Ghost := { w0 := G.w0, bufs := fun x => if (G0.bufs x).isSome = true then G.bufs x else none, boxes := G0.boxes, boxv := G0.boxv, objs := G.objs, kr := G.kr, base := G.base }
section
variable {C : Ctx} {N : Nat} {G : Ghost} {cls : Nat -> Id} {s : St} {a : Act} {w : World}
theorem Rel.reset (h : Rel C N G cls s a w) {m : List (List AV)} (hv : C.G0.boxv.length = m.length) (hb : C.G0.boxes.length = m.length) (hS : db C.G0 m) (hid : ∀ cs ∈ m, ∀ c ∈ cs, c.idOf = none) (hwr : ∀ i ∈ s.wr, m.length <= i) (cls' : Nat -> Id) :
  Rel C N (G.reset C.G0) cls' (s.calm m) a w := by
 have hbox : ∀ (i b : Nat), C.G0.boxes[i]? = some b -> G.boxes[i]? = some b := fun i b h1 => h.ext.box_at h1
 have hboxv : ∀ (i : Nat) (vs : List Value), C.G0.boxv[i]? = some vs -> G.boxv[i]? = some vs := fun i vs h1 => by
  have hi := (Q7.1 h1).1
  rw [h.boxes i hi fun hh => by have := hwr i hh; omega]; exact h1
 have hbufs : ∀ (b : Nat) (B : Buf), (G.reset C.G0).bufs b = some B -> G.bufs b = some B := fun b B hB => by
  have hB' : (if (C.G0.bufs b).isSome = true then G.bufs b else none) = some B := hB
  split at hB'
  ·exact hB'
  ·cases hB'
 have hE : Ext C.G0 (G.reset C.G0) := by
  refine ⟨h.ext.w0, fun b B hB => ?_, ⟨[], by rw [Rm]; rfl⟩, h.ext.objs⟩
  obtain ⟨mo, hm⟩ := h.ext.bufs b B hB
  refine ⟨mo, ?_⟩
  show (if (C.G0.bufs b).isSome = true then G.bufs b else none) = _
  rw [hB]; exact hm
 have hW : WorldOk (G.reset C.G0) w := by
  refine ⟨h.ok.below, fun b B hB => h.ok.buf b B (hbufs b B hB), fun i b vs h1 h2 => ?_, ⟨?_, h.ok.dom⟩, by show C.G0.boxv.length = C.G0.boxes.length; omega, h.ok.obj.obj, fun i b vs κ h1 h2 h3 => h.ok.obj.kbox i b vs κ (hbox i b h1) (hboxv i vs h2) h3, h.ok.obj.kind, h.ok.obj.room⟩
  ·obtain ⟨p1, p2, p3, p4⟩ := h.ok.box i b vs (hbox i b h1) (hboxv i vs h2)
   refine ⟨p1, p2, fun hne => ?_, p4⟩
   cases hB : (G.reset C.G0).bufs b with
   | none => rfl
   | some B => have := hbufs b B hB; rw [p3 hne] at this; cases this
  ·intro p q x hp hq hpq
   have key : ∀ (p : Nat), C.G0.boxes[p]? = some x -> G.boxv[p]? = some [] -> C.G0.boxv[p]? = some [] := fun p hp h1 => by
    have hl : p < C.G0.boxv.length := by have := (Q7.1 hp).1; omega
    have := hboxv p _ (Q8 hl)
    rw [Q8 hl, <- this, h1]
   rcases h.ok.nodup p q x (hbox p x hp) (hbox q x hq) hpq with h1 | h1
   ·exact .inl (key p hp h1)
   ·exact .inr (key q hq h1)
 have hH : db (G.reset C.G0) m := ⟨hS.1, fun i cs vs h1 h2 => by
  obtain ⟨p1, p2, p3⟩ := hS.2 i cs vs h1 h2
  exact ⟨p1, p2, fun j c hj => (p3 j c hj).ext hE⟩⟩
 refine ⟨hW, hH, fun i cs vs h1 h2 j c hj => ?_, fun t ht => ?_, fun t ht => ?_, h.size, ?_, hE, fun i hi hn => rfl, fun b B hB hT => ?_⟩
 ·have := hid cs (Rb h1) c (Rb hj)
  exact ⟨.none _ this, fun x hx => by rw [this] at hx; cases hx⟩
 ·rw [qH]
  have h1 := (h.env t ht).1
  unfold St.look at h1
  cases ho : find s.own t with
  | some x => exact ⟨.any _, trivial⟩
  | none =>
   rw [ho] at h1
   cases he : find s.env t with
   | none => exact ⟨.any _, trivial⟩
   | some x =>
    rw [he] at h1
    dsimp only at h1 ⊢
    refine ⟨?_, .none _ (qS _ _)⟩
    have at_ : ∀ (i b : Nat), i < m.length -> G.boxes[i]? = some b -> C.G0.boxes[i]? = some b := fun i b hi hb' => by
     obtain ⟨mo, hm⟩ := h.ext.boxes
     rw [hm, Q9 (by omega)] at hb'
     exact hb'
    cases x with
    | v y => rw [h1.inv_v]; exact .v y
    | box i o =>
     show Sees _ (if i < m.length then AV.box i o else AV.any) _
     split
     ·rename_i hi
      obtain ⟨b, e, h2, h3⟩ := h1.inv_box
      rw [e]; exact .box _ _ b ⟨at_ i b hi h2, h3⟩
     ·exact .any _
    | mp i k o =>
     show Sees _ (if i < m.length then AV.mp i k o else AV.any) _
     split
     ·rename_i hi
      obtain ⟨b, e, h2, h3⟩ := h1.inv_mp
      rw [e]; exact .mp _ b _ _ (at_ i b hi h2) h3
     ·exact .any _
    | _ => exact .any _
 ·rw [qH]
  cases ho : find s.own t with
  | some x =>
   have : find (yn s.own) t = none := ht
   rw [lG, ho] at this; cases this
  | none =>
   cases he : find s.env t with
   | none => rfl
   | some x => exact qS _ _
 ·obtain ⟨Ds, d1, d2, d3⟩ := h.defers
  exact ⟨Ds, d1, d2, d3⟩
 ·show (if (C.G0.bufs b).isSome = true then G.bufs b else none) = _
  rw [hB]; exact h.bufs b B hB hT
theorem WorldOk.turned (h : WorldOk G w) {w' : World} {ad : Option Addr} {us' : List Value} (hT : Turned w w' ad us')
  (hn : ∀ b o, ad = some ⟨b, o, none⟩ -> G.w0.heap.size <= b /\ G.bufs b = none /\ ∀ (i : Nat) (vs : List Value), G.boxes[i]? = some b -> G.boxv[i]? = some vs -> vs = []) : WorldOk G w' := by
 have hcell : ∀ b, b < w.heap.size -> (∀ b' o, ad = some ⟨b', o, none⟩ -> b ≠ b') -> ∀ j, w'.cell? ⟨b, j, none⟩ = w.cell? ⟨b, j, none⟩ /\ w'.frozen? ⟨b, j, none⟩ = w.frozen? ⟨b, j, none⟩ := fun b hb hne j =>
  ⟨World.cell?_of_block (a := ⟨b, j, none⟩) (hT.other b hb hne), World.frozen?_of_block (a := ⟨b, j, none⟩) (hT.other b hb hne)⟩
 refine ⟨h.below.trans ⟨hT.os, hT.tape, hT.out, hT.keeps.size, fun k hk => hT.other k (by have := h.below.size; omega) fun b o e => by have := (hn b o e).1; omega⟩, fun b B hB => ?_, fun i b vs h1 h2 => ?_, h.nodup2, h.len, h.obj.keep ⟨hT.keeps, fun b j hh => ?_⟩⟩
 ·obtain ⟨p1, p2, p3, p4, p5⟩ := h.buf b B hB
  have hne : ∀ b' o, ad = some ⟨b', o, none⟩ -> b ≠ b' := fun b' o e hh => by subst hh; rw [(hn b o e).2.1] at hB; cases hB
  exact ⟨p1, Rx p2 hT.keeps.size, p3, fun j hj => by rw [(hcell b p2 hne j).1, (hcell b p2 hne j).2]; exact p4 j hj, fun j x hx => by rw [(hcell b p2 hne j).1]; exact p5 j x hx⟩
 ·obtain ⟨p1, p2, p3, p4⟩ := h.box i b vs h1 h2
  refine ⟨p1, Rx p2 hT.keeps.size, p3, fun j x hx hk => ?_⟩
  have hne : ∀ b' o, ad = some ⟨b', o, none⟩ -> b ≠ b' := fun b' o e hh => by subst hh; rw [(hn b o e).2.2 i vs h1 h2] at hx; simp at hx
  rw [(hcell b p2 hne _).1, (hcell b p2 hne _).2]; exact p4 j x hx hk
 ·by_cases hne : ∀ b' o, ad = some ⟨b', o, none⟩ -> b ≠ b'
  ·rw [(hcell b (fw hh.1) hne j).1, (hcell b (fw hh.1) hne j).2]; exact hh
  ·have : ∃ o, ad = some ⟨b, o, none⟩ := Rz fun hn2 => hne fun b' o e e2 => hn2 ⟨o, by subst e2; exact e⟩
   obtain ⟨o, e⟩ := this
   obtain ⟨q1, q2⟩ := hT.here b o e j
   rw [q1, q2]
   refine ⟨?_, hh.2⟩
   split
   ·rename_i hin
    rw [Q8 (by omega)]; rfl
   ·exact hh.1
theorem Rel.turned (h : Rel C N G cls s a w) {w' : World} {ad : Option Addr} {us' : List Value} (hT : Turned w w' ad us')
  (hn : ∀ b o, ad = some ⟨b, o, none⟩ -> G.w0.heap.size <= b /\ G.bufs b = none /\ ∀ (i : Nat) (vs : List Value), G.boxes[i]? = some b -> G.boxv[i]? = some vs -> vs = []) : Rel C N G cls s a w' :=
 ⟨h.ok.turned hT hn, h.heap, h.ownh, h.env, h.plain, h.size, h.defers, h.ext, h.boxes, h.bufs⟩
theorem Rel.learn (h : Rel C N G cls s a w) {b : Nat} {B : Buf} (hb : G.bufs b = none) (h0 : G.w0.heap.size <= b) (h1 : b < w.heap.size) (h2 : B.cells.length <= B.size) (h3 : ∀ j, j < B.size -> (w.cell? ⟨b, j, none⟩).isSome = true /\ w.frozen? ⟨b, j, none⟩ = false)
  (h4 : ∀ (j : Nat) (x : Value), B.cells[j]? = some x -> w.cell? ⟨b, j, none⟩ = some x) (h5 : ∀ (i : Nat) (vs : List Value), G.boxes[i]? = some b -> G.boxv[i]? = some vs -> vs = []) : Rel C N (G.setBuf b B) cls s a w /\ Ext G (G.setBuf b B) := by
 have keepB : ∀ (x : Nat) (B' : Buf), G.bufs x = some B' -> (G.setBuf b B).bufs x = some B' := fun x B' hB => by
  have hne : x ≠ b := fun e => by subst e; rw [hb] at hB; cases hB
  show (if x = b then _ else G.bufs x) = _
  rw [if_neg hne, hB]
 have hE : Ext G (G.setBuf b B) := ⟨rfl, fun x B' hB => ⟨[], by rw [keepB x B' hB, Rm]⟩, ⟨[], by rw [Rm]; rfl⟩, fun _ _ h => h, fun _ _ _ => ⟨rfl, rfl⟩⟩
 have hW : WorldOk (G.setBuf b B) w := by
  refine ⟨h.ok.below, fun x B' hB => ?_, fun i x vs e1 e2 => ?_, h.ok.nodup2, h.ok.len, h.ok.objK (Keeps.refl w)⟩
  ·have hB' : (if x = b then some B else G.bufs x) = some B' := hB
   split at hB'
   ·rename_i e
    subst e
    injection hB' with hB'
    subst hB'
    exact ⟨h0, h1, h2, h3, h4⟩
   ·exact h.ok.buf x B' hB'
  ·obtain ⟨p1, p2, p3, p4⟩ := h.ok.box i x vs e1 e2
   refine ⟨p1, p2, fun hne => ?_, p4⟩
   have hxb : x ≠ b := fun e => by subst e; exact hne (h5 i vs e1 e2)
   show (if x = b then _ else G.bufs x) = none
   rw [if_neg hxb]; exact p3 hne
 refine ⟨h.next hE hW keepB ⟨h.heap.1, fun i cs us e1 e2 => ?_⟩ (fun i cs us e1 e2 j c hj => ?_) h.boxes, hE⟩
 ·obtain ⟨q1, q2, q3⟩ := h.heap.2 i cs us e1 e2
  exact ⟨q1, q2, fun j c hj => (q3 j c hj).ext hE⟩
 ·obtain ⟨q1, q2⟩ := h.ownh i cs us e1 e2 j c hj
  exact ⟨q1.keep fun x B' _ hB _ => keepB x B' hB, q2⟩
def vE (us : List Value) : List (List AV) := us.map fun u => [AV.v u]
theorem Ih {us : List Value} {i : Nat} {e : List AV} (h : (vE us)[i]? = some e) : ∃ u, us[i]? = some u /\ e = [.v u] := by
 unfold vE at h
 rw [Rw] at h
 cases hu : us[i]? with
 | none => rw [hu] at h; cases h
 | some u => rw [hu] at h; injection h with h; exact ⟨u, rfl, h.symm⟩
theorem Rel.seeO (h : Rel C N G cls s a w) {t : Nat} (ht : t < N) {b : AV} (hs : Sees G b (a.tmps.getD t undef)) (hO : OwnAt G (Own C cls) b (a.tmps.getD t undef)) : Rel C N G cls (s.putO t b) a w := by
 refine ⟨h.ok, h.heap, h.ownh, fun u hu => ?_, fun u hu => ?_, h.size, h.defers, h.ext, h.boxes, h.bufs⟩
 ·rw [ji]
  split
  ·rename_i e; subst e; exact ⟨hs, hO⟩
  ·exact h.env u hu
 ·rw [jA] at hu
  rw [ji]
  split
  ·rename_i hdt; rw [if_pos hdt] at hu; cases hu
  ·rename_i hdt; rw [if_neg hdt] at hu; exact h.plain u hu
theorem Cb (a : Act) {t d : Nat} {e : Option Nat} (v1 v2 : Value) (htd : t ≠ d) (hte : e ≠ some t) : ((a.put (some d) v1).put e v2).tmps.getD t undef = a.tmps.getD t undef := by
 have one : ∀ (a : Act) (d : Nat) (v : Value), t ≠ d -> (a.put (some d) v).tmps.getD t undef = a.tmps.getD t undef := fun a d v h => by
  simp only [Act.put, Rc, Array.getElem?_setIfInBounds]
  rw [if_neg (fun e => h e.symm)]
 cases e with
 | none => exact one a d v1 htd
 | some x => rw [one _ x v2 (fun h => hte (by rw [h])), one a d v1 htd]
theorem Rel.sorted (h : Rel C N G cls s a w) {P : Program} {g : FuncId} {m : Frm} (hv : C.G0.boxv.length = m.h.length) (hb : C.G0.boxes.length = m.h.length) (hS : db C.G0 m.h) (hT : m.plain -> ∀ b, ¬ C.T b) (hp : m.plain) (hwr : ∀ i ∈ s.wr, m.h.length <= i)
  {t d : Nat} {e : Option Nat} (ht : t < N) (hd : d < N) (he : ∀ x, e = some x -> x < N) (htd : t ≠ d) (hte : e ≠ some t)
  {us us' : List Value} {k : Nat} {nul : Option Bool} {room : Room} (hl : s.look t = .sl k (vE us) nul room) (hroom : (k = 1 /\ ∃ c, room = .own c /\ c.isNew = true) \/ nul = some true) (hI : rB P g us us') :
  ∃ ad cap, a.tmps.getD t undef = .slice ad us.length cap /\ Calls P g #[.slice ad us.length cap] w fun r w' => r = .returned (.tuple #[]) /\ ∀ v1 v2, ∃ G' cls', Rel C N G' cls' (s.sorted m.h t d e (.sl 1 (vE us') nul (.own (.new t)))) ((a.put (some d) v1).put e v2) w' := by
 obtain ⟨hse, hown⟩ := h.env t ht
 rw [hl] at hse hown
 cases hval : a.tmps.getD t undef with
 | slice ad len cap =>
  rw [hval] at hse hown
  cases hse with
  | sl _ _ _ _ _ _ _ u hlen hn hkk hcap hm hr hc hs h1 =>
   have hlu : len = us.length := by rw [hlen]; unfold vE; simp
   subst hlu
   obtain ⟨hEn, hl', ho', hcall⟩ := hI
   have hR1 := h.reset hv hb hS hp.2 hwr (fun _ => Id.new t)
   have hplace : (ad = none /\ us = []) \/ ∃ b o B, ad = some ⟨b, o, none⟩ /\ k = 1 /\ G.bufs b = some B /\ B.cells.length = o + us.length /\ o + cap <= B.size /\ C.G0.bufs b = none := by
    have nul_none : ad = none -> us = [] := fun e1 => Rl (hn.1 e1).2
    rcases hroom with ⟨rfl, c, rfl, hc1⟩ | hnul
    ·rcases hown with ⟨_, hx⟩ | ⟨b, o, B, e1, e2, e3, e4, e5⟩
     ·exact .inl ⟨hx hc1, nul_none (hx hc1)⟩
     ·have hacc : C.G0.bufs b = none := by
       rcases e5.2 with h6 | h6
       ·exact h6
       ·exact absurd h6 (hT hp b)
      exact .inr ⟨b, o, B, e1, rfl, e2, by rw [e3, RS], by simpa using e4, hacc⟩
    ·exact .inl ⟨hn.2.1 hnul, nul_none (hn.2.1 hnul)⟩
   have hcells : us ≠ [] -> ∃ b o, ad = some ⟨b, o, none⟩ /\ b < w.heap.size /\ ∀ j u, us[j]? = some u -> w.cell? ⟨b, o + j, none⟩ = some u /\ w.frozen? ⟨b, o + j, none⟩ = false := fun hne => by
    rcases hplace with ⟨_, hx⟩ | ⟨b, o, B, rfl, rfl, e2, e3, e4, _⟩
    ·exact absurd hx hne
    ·obtain ⟨p1, p2, p3, p4, p5⟩ := h.ok.buf b B e2
     refine ⟨b, o, rfl, p2, fun j x hj => ?_⟩
     have hjl := (Q7.1 hj).1
     have hpos : 0 < (vE us).length := by unfold vE; simp; omega
     obtain ⟨b', o', e5, e6⟩ := hc hpos
     injection e5 with e5
     injection e5 with e5 e7
     subst e5 e7
     have hj' : j < (vE us).length := by unfold vE; simpa using hjl
     have hcj := h.ok.cell (e6 j 0 hj' Nat.one_pos)
     have hve : (vE us)[j]? = some [.v x] := by unfold vE; rw [Rw, hj]; rfl
     have hux := (hs j _ hve 0 _ rfl).inv_v
     rw [RS, Nat.add_zero, hux] at hcj
     exact ⟨hcj, (p4 _ (by omega)).2⟩
   refine ⟨ad, cap, rfl, (hcall w ad cap hcap hcells).mono fun r w' hr => ⟨hr.1, fun v1 v2 => ?_⟩⟩
   have hTu := hr.2
   have tval : ((a.put (some d) v1).put e v2).tmps.getD t undef = .slice ad us.length cap := by rw [Cb a v1 v2 htd hte]; exact hval
   have hne1 : ∀ x ∈ vE us', x.length = 1 := fun x hx => by unfold vE at hx; obtain ⟨y, _, rfl⟩ := RA.1 hx; rfl
   have hvl : (vE us').length = us.length := by unfold vE; simp [hl']
   rcases hplace with ⟨hx, hy⟩ | ⟨b, o, B, hx, rfl, e2, e3, e4, e5⟩
   ·subst hx hy
    have hu' : us' = [] := Rl hl'
    subst hu'
    have hR2 := ((hR1.turned hTu (fun b o e => by cases e)).put hd (.any v1) rfl).puts he (o := false) (.any v2) trivial (fun _ => rfl)
    refine ⟨_, _, hR2.seeO ht (b := .sl 1 (vE []) nul (.own (.new t))) ?_ ?_⟩
    ·rw [tval]
     exact .sl 1 [] nul _ none 0 cap (fun _ _ => undef) rfl hn (fun e he => by cases he) hcap hm (fun h => by cases h) (fun h => by simp at h) (fun i e he => by simp at he) (fun i j hi => by simp at hi)
    ·rw [tval]
     exact .inl ⟨(hn.1 rfl).1, fun _ => rfl⟩
   ·subst hx
    obtain ⟨p1, p2, p3, p4, p5⟩ := h.ok.buf b B e2
    have hbn : (G.reset C.G0).bufs b = none := by
     show (if (C.G0.bufs b).isSome = true then G.bufs b else none) = none
     rw [e5]; rfl
    have hbx : ∀ (i : Nat) (vs : List Value), (G.reset C.G0).boxes[i]? = some b -> (G.reset C.G0).boxv[i]? = some vs -> vs = [] := fun i vs q1 q2 => by
     refine Rz fun hne => ?_
     have hi := (Q7.1 (show C.G0.boxv[i]? = some vs from q2)).1
     have q3 : G.boxv[i]? = some vs := by rw [h.boxes i hi fun hh => by have := hwr i hh; omega]; exact q2
     have := (h.ok.box i b vs (h.ext.box_at q1) q3).2.2.1 hne
     rw [e2] at this; cases this
    have hR2 := hR1.turned hTu (fun b' o' e => by
     injection e with e; injection e with e e'; subst e e'
     exact ⟨p1, hbn, hbx⟩)
    have hcl : ∀ j x, (B.cells.take o ++ us')[j]? = some x -> w'.cell? ⟨b, j, none⟩ = some x := fun j x hj => by
     rw [(hTu.here b o rfl j).2]
     have htl : (B.cells.take o).length = o := by rw [Rr]; omega
     by_cases hjo : j < o
     ·rw [Q9 (by omega), Ra, if_pos hjo] at hj
      rw [if_neg (by omega)]; exact p5 j x hj
     ·rw [Rn (by omega), htl] at hj
      have := (Q7.1 hj).1
      rw [if_pos (by omega)]; exact hj
    have htl : (B.cells.take o ++ us').length = o + us.length := by rw [List.length_append, Rr, hl']; omega
    obtain ⟨hR3, hE3⟩ := hR2.learn (B := ⟨B.cells.take o ++ us', B.size⟩) hbn p1 (Rx p2 hTu.keeps.size) (by show _ <= B.size; rw [htl]; omega) (fun j hj => by
     obtain ⟨q1, q2⟩ := hTu.here b o rfl j
     obtain ⟨q3, q4⟩ := p4 j hj
     refine ⟨?_, by rw [q1]; exact q4⟩
     rw [q2]
     split
     ·rename_i hin
      rw [Q8 (by omega)]; rfl
     ·exact q3) hcl hbx
    have hR4 := (hR3.put hd (.any v1) rfl).puts he (o := false) (.any v2) trivial (fun _ => rfl)
    have hbuf : ((G.reset C.G0).setBuf b ⟨B.cells.take o ++ us', B.size⟩).bufs b = some ⟨B.cells.take o ++ us', B.size⟩ := if_pos rfl
    refine ⟨_, _, hR4.seeO ht (b := .sl 1 (vE us') nul (.own (.new t))) ?_ ?_⟩
    ·rw [tval]
     refine .sl 1 (vE us') nul _ (some ⟨b, o, none⟩) us.length cap (fun i _ => us'.getD i undef) hvl.symm hn hne1 (by rw [<- hl'] at hcap; rw [<- hl']; exact hcap) hm (fun h => by cases h) (fun hpos => ⟨b, o, rfl, fun i j hi hj => ?_⟩) (fun i e he j c hj => ?_) (fun i j hi hj => ?_)
     ·have hj0 : j = 0 := by omega
      subst hj0
      have hi' : i < us'.length := by rw [hl', <- hvl]; exact hi
      unfold Ghost.cell
      rw [if_neg (by show ¬ b < G.w0.heap.size; omega), hbuf]
      show (B.cells.take o ++ us')[o + i * 1 + 0]? = _
      have htl2 : (B.cells.take o).length = o := by rw [Rr]; omega
      rw [Rn (by omega), htl2, show o + i * 1 + 0 - o = i by omega, Re, Q8 hi']
      rfl
     ·obtain ⟨y, hy, rfl⟩ := Ih he
      cases j with
      | zero => simp at hj; subst hj; rw [Re, hy]; exact .v y
      | succ j => simp at hj
     ·have hi' : i < us'.length := by rw [hl', <- hvl]; exact hi
      rw [Re, Q8 hi']
      exact ho' _ (RW hi')
    ·rw [tval]
     refine .inr ⟨b, o, _, rfl, hbuf, ?_, ?_, rfl, .inl e5⟩
     ·show (B.cells.take o ++ us').length = _
      rw [htl, RS]
     ·show o + cap * 1 <= B.size
      omega
 | _ => rw [hval] at hse; cases hse
end
inductive XCode where
 | skip
 | ops (xs : List XOper)
 | draws (t : XTree)
 | seq (a b : XCode)
 | cond (x : Operand) (a b : XCode)
 | block (id : Nat) (a : XCode)
 | loop (a : XCode)
 | exit (id : Nat)
 | ret
 | range (x : Operand) (ps : List Nat) (a b : XCode)
 | cut (a : XCode)
 | mark (a : XCode)
 | nexts (d : Option Nat) (x : Operand) (xs : List XOper)
 | sortr (t d : Nat) (e : Option Nat) (g : FuncId)
def XCode.strip : XCode -> XCode
 | .seq a b => .seq a.strip b.strip
 | .cond x a b => .cond x a.strip b.strip
 | .block id a => .block id a.strip
 | .loop a => .loop a.strip
 | .range x ps a b => .range x ps a.strip b.strip
 | .cut a => a.strip
 | .mark a => a.strip
 | x => x
def XCode.okIn (rr : Option Nat) : XCode -> Prop
 | .seq a b => a.okIn rr /\ b.okIn rr
 | .cond _ a b => a.okIn rr /\ b.okIn rr
 | .block _ a => a.okIn rr
 | .loop a => a.okIn rr
 | .cut a => a.okIn rr
 | .mark a => a.okIn rr
 | .range _ _ _ _ => rr = none
 | _ => True
theorem XCode.okIn_none : ∀ x : XCode, x.okIn none
 | .skip | .ops _ | .draws _ | .exit _ | .ret | .nexts .. | .sortr .. => trivial
 | .range _ _ _ _ => rfl
 | .seq a b => ⟨okIn_none a, okIn_none b⟩
 | .cond _ a b => ⟨okIn_none a, okIn_none b⟩
 | .block _ a => okIn_none a
 | .loop a => okIn_none a
 | .cut a => okIn_none a
 | .mark a => okIn_none a
def EI (P : Program) (N : Nat) (ops : Array Oper) : Option XCode :=
 match ops.toList with
 | o :: r => match o.op with
  | .next x false => if o.guard.isNone = true /\ ap N o = true then match r.mapM (bB P N ops) with
   | some xs => some (.nexts o.dst x xs)
   | none => none
   else none
  | _ => none
 | [] => none
def Bi (N t : Nat) : Option Nat -> Bool
 | some e => decide (e < N) && decide (e ≠ t)
 | none => true
def EJ (P : Program) (N : Nat) (ops : Array Oper) : Option XCode :=
 match ops.toList with
 | [p, q] => match p.op, p.dst, q.op with
  | .move (.tmp t), some d, .call c => match c.callee, c.args.toList with
   | .value (.func g), [.tmp d'] => if (H7 P g && decide (d' = d) && decide (t ≠ d) && decide (t < N) && decide (d < N) && p.guard.isNone && q.guard.isNone && Bi N t q.dst) = true then some (.sortr t d q.dst g) else none
   | _, _ => none
  | _, _, _ => none
 | _ => none
def sD (P : Program) (N : Nat) (ops : Array Oper) : Option XCode :=
 match EI P N ops with
 | some x => some x
 | none => EJ P N ops
def aP (P : Program) (N : Nat) : Code -> Option XCode
 | .skip => some .skip
 | .region _ ops false => match sD P N ops with
  | some x => some x
  | none => (ops.toList.mapM (bB P N ops)).map .ops
 | .region _ ops true => if Region.noSelect ops = true /\ ng ops = true then (gu P N ops ops.size (Ru ops.size false)).map .draws else none
 | .seq a b => match aP P N a, aP P N b with
  | some x, some y => some (.seq x y)
  | _, _ => none
 | .cond x a b => if cm N x = true then match aP P N a, aP P N b with
  | some y, some z => some (.cond x y z)
  | _, _ => none
  else none
 | .block id a => (aP P N a).map (.block id)
 | .loop a => (aP P N a).map .loop
 | .exit id => some (.exit id)
 | .scope a => aP P N a
 | .label _ => some .skip
 | .ret => some .ret
 | .rangeFunc g ps a c => if cm N g = true /\ nodupB ps.toList = true /\ ps.toList.all (fun t => decide (t < N)) = true then match aP P N a, aP P N c with
  | some x, some y => some (.range g ps.toList x y)
  | _, _ => none
  else none
 | _ => none
inductive XExit where
 | normal
 | exit (id : Nat)
 | ret
def XExit.then (K' : St -> Prop) (K : XExit -> St -> Prop) : XExit -> St -> Prop
 | .normal, s => K' s
 | e, s => K e s
def XExit.inBlock (id : Nat) (K : XExit -> St -> Prop) : XExit -> St -> Prop
 | .exit i, s => if i = id then K .normal s else K (.exit i) s
 | e, s => K e s
def ry (v : AV) (A B : Prop) : Prop :=
 match v with
 | .v (.bool c) => (c = true -> A) /\ (c = false -> B)
 | _ => False
def XExit.code : XExit -> Code
 | .normal => .skip
 | .exit id => .exit id
 | .ret => .ret
def PG (i n : Nat) (stop : Bool) (e : XExit) (h' : List (List AV)) (wr : List Nat) (e' : XExit) (s : St) : Prop := e' = (if stop = true then e else .normal) /\ s.heap[i]? = some (bf true false) /\ stays n h' wr (s.turn i false stop)
def yi (P : Program) (m : Frm) (t d : Nat) (e : Option Nat) (g : FuncId) (s : St) (K : St -> Prop) : Prop :=
 ∃ (us us' : List Value) (k : Nat) (nul : Option Bool) (room : Room), s.look t = .sl k (vE us) nul room /\ ((k = 1 /\ ∃ c, room = .own c /\ c.isNew = true) \/ nul = some true) /\ rB P g us us' /\ m.plain /\ (∀ i ∈ s.wr, m.h.length <= i) /\ K (s.sorted m.h t d e (.sl 1 (vE us') nul (.own (.new t))))
def dH (P : Program) (m : Frm) : XCode -> St -> (XExit -> St -> Prop) -> Prop
 | .skip, s, K => K .normal s
 | .ops xs, s, K => eG P xs s [] fun s' _ => K .normal s'
 | .draws t, s, K => bu P t s [] (K .normal)
 | .seq a b, s, K => dH P m a s (XExit.then (fun s' => dH P m b s' K) K)
 | .cond x a b, s, K => ry (s.get x) (dH P m a s K) (dH P m b s K)
 | .block id a, s, K => dH P m a s (XExit.inBlock id K)
 | .loop a, s, K => ∃ (D : Type) (inv : D -> St) (μ : D -> Nat), (∃ d, Leq m.h.length s (inv d)) /\ ∀ d, dH P m a (inv d) (XExit.then (fun s' => ∃ d', μ d' < μ d /\ Leq m.h.length s' (inv d')) K)
 | .exit id, s, K => K (.exit id) s
 | .ret, s, K => K .ret s
 | .range x ps a b, s, K => (∀ l, a.okIn (some l)) /\ (∀ l, b.okIn (some l)) /\ ∃ (g : FuncId) (cap : List AV) (n : Nat) (xs : Nat -> List AV) (all : Bool) (R : List (List AV) -> Prop) (e : XExit) (H : Nat -> List (List AV)) (wr : List Nat) (h3 : List (List AV)) (E : Nat -> List (List AV)),
   s.get x = .fn (.func g) [] cap /\ (∀ y ∈ cap, y.idOf = none) /\ Ks P g cap n xs all R E /\ H 0 = s.heap ++ [bf false false] /\ (∀ j, j <= n -> R (H j)) /\
   (∀ j, j < n -> (xs j).length = ps.length /\ (∀ y ∈ xs j, y.idOf = none) /\ (H j ++ E j)[s.heap.length]? = some (bf false false) /\
    dH P ⟨H j ++ E j, xs j⟩ a (s.round ps (xs j) (H j ++ E j)) (XExit.then (fun s1 => s1.heap[s.heap.length]? = some (bf false false) /\ dH P ⟨H j ++ E j, xs j⟩ b (s1.turn s.heap.length true false) (PG s.heap.length (H j ++ E j).length (!all && j + 1 == n) e (H (j + 1) ++ E j) wr)) (fun _ _ => False))) /\
   H n = h3 ++ [bf false !all] /\ h3.length = s.heap.length /\ aR s.heap.length h3 /\ (all = true -> K .normal ⟨s.env, fb (be []) s.own, h3, wr ++ s.wr⟩) /\ (all = false -> e ≠ .normal /\ K e ⟨s.env, fb (be []) s.own, h3, wr ++ s.wr⟩)
 | .cut a, s, K => ∃ s2, LeqF m.h.length s s2 /\ dH P m a s2 K
 | .mark a, s, K => dH P m a s K
 | .nexts d x xs, s, K => mP s d (s.get x) fun s' => eG P xs s' [] fun s' _ => K .normal s'
 | .sortr t d e g, s, K => yi P m t d e g s (K .normal)
def post (C : Ctx) (N : Nat) (K : XExit -> St -> Prop) : Exit -> Act -> World -> Prop
 | .normal, a, w => ∃ s G cls, Rel C N G cls s a w /\ K .normal s
 | .exit id, a, w => ∃ s G cls, Rel C N G cls s a w /\ K (.exit id) s
 | .ret, a, w => ∃ s G cls, Rel C N G cls s a w /\ K .ret s
 | _, _, _ => False
theorem least {p : Nat -> Prop} (h : ∃ n, p n) : ∃ n, p n /\ ∀ k, p k -> n <= k := by
 obtain ⟨n, hn⟩ := h
 induction n using RZ with
 | _ n ih =>
  by_cases hk : ∃ k, k < n /\ p k
  ·obtain ⟨k, h1, h2⟩ := hk; exact ih k h1 h2
  ·exact ⟨n, hn, fun k h2 => Nat.le_of_not_lt fun h1 => hk ⟨k, h1, h2⟩⟩
section
variable {P : Program} {C : Ctx} {N m : Nat}
def Code.bare : Code -> Bool
 | .scope _ => false
 | _ => true
theorem cA {rr : Option Nat} : ∀ (c : Code), ∃ d : Code, Code.bare d = true /\ aP P N c = aP P N d /\ ∀ (K : XExit -> St -> Prop) (a : Act) (w : World), d.wpIn (Fr rr) 0 P (post C N K) a w -> c.wpIn (Fr rr) 0 P (post C N K) a w
 | .scope c => by
  obtain ⟨d, h1, h2, h3⟩ := cA (rr := rr) c
  refine ⟨d, h1, by rw [<- h2]; rfl, fun K a w h => ?_⟩
  refine jt (wpIn_mono (h3 K a w h) fun e a' w' hh => ?_)
  cases e with
  | goto l => exact hh
  | _ => exact hh
 | .skip => ⟨_, rfl, rfl, fun _ _ _ h => h⟩
 | .region _ _ _ => ⟨_, rfl, rfl, fun _ _ _ h => h⟩
 | .seq _ _ => ⟨_, rfl, rfl, fun _ _ _ h => h⟩
 | .cond _ _ _ => ⟨_, rfl, rfl, fun _ _ _ h => h⟩
 | .block _ _ => ⟨_, rfl, rfl, fun _ _ _ h => h⟩
 | .loop _ => ⟨_, rfl, rfl, fun _ _ _ h => h⟩
 | .exit _ => ⟨_, rfl, rfl, fun _ _ _ h => h⟩
 | .label _ => ⟨_, rfl, rfl, fun _ _ _ h => h⟩
 | .ret => ⟨_, rfl, rfl, fun _ _ _ h => h⟩
 | .goto _ => ⟨_, rfl, rfl, fun _ _ _ h => h⟩
 | .refuse _ => ⟨_, rfl, rfl, fun _ _ _ h => h⟩
 | .rangeFunc .. => ⟨_, rfl, rfl, fun _ _ _ h => h⟩
theorem bv {c d : Code} {x : XCode} (h : aP P N (.seq c d) = some x) : ∃ y z, aP P N c = some y /\ aP P N d = some z /\ x = .seq y z := by
 unfold aP at h
 split at h
 ·rename_i y z hy hz; injection h with h; exact ⟨y, z, hy, hz, h.symm⟩
 ·cases h
theorem aV {y : Operand} {c d : Code} {x : XCode} (h : aP P N (.cond y c d) = some x) : ∃ p q, cm N y = true /\ aP P N c = some p /\ aP P N d = some q /\ x = .cond y p q := by
 unfold aP at h
 split at h
 ·rename_i hf
  split at h
  ·rename_i p q hp hq; injection h with h; exact ⟨p, q, hf, hp, hq, h.symm⟩
  ·cases h
 ·cases h
theorem aL {id : Nat} {c : Code} {x : XCode} (h : aP P N (.block id c) = some x) : ∃ y, aP P N c = some y /\ x = .block id y := by
 unfold aP at h
 cases hy : aP P N c with
 | none => rw [hy] at h; cases h
 | some y => rw [hy] at h; injection h with h; exact ⟨y, rfl, h.symm⟩
theorem aW {c : Code} {x : XCode} (h : aP P N (.loop c) = some x) : ∃ y, aP P N c = some y /\ x = .loop y := by
 unfold aP at h
 cases hy : aP P N c with
 | none => rw [hy] at h; cases h
 | some y => rw [hy] at h; injection h with h; exact ⟨y, rfl, h.symm⟩
theorem aM {g : Operand} {ps : Array Tmp} {c d : Code} {x : XCode} (h : aP P N (.rangeFunc g ps c d) = some x) : ∃ y z, cm N g = true /\ nodupB ps.toList = true /\ (∀ t ∈ ps.toList, t < N) /\ aP P N c = some y /\ aP P N d = some z /\ x = .range g ps.toList y z := by
 unfold aP at h
 split at h
 ·rename_i hf
  split at h
  ·rename_i p q hp hq; injection h with h; exact ⟨p, q, hf.1, hf.2.1, fun t ht => by simpa using RD.1 hf.2.2 t ht, hp, hq, h.symm⟩
  ·cases h
 ·cases h
def Ad (P : Program) (N : Nat) (ops : Array Oper) (d : Option Nat) (y : Operand) (xs : List XOper) : Prop :=
 ∃ o r, ops.toList = o :: r /\ o.op = .next y false /\ o.guard = none /\ ap N o = true /\ o.dst = d /\ r.mapM (bB P N ops) = some xs
def Ae (P : Program) (N : Nat) (ops : Array Oper) (t d : Nat) (e : Option Nat) (g : FuncId) : Prop :=
 ∃ p q ts, ops.toList = [p, q] /\ p.op = .move (.tmp t) /\ p.dst = some d /\ p.guard = none /\ q.op = .call { callee := .value (.func g), args := #[.tmp d], argTypes := ts } /\ q.dst = e /\ q.guard = none /\ t < N /\ d < N /\ (∀ x, e = some x -> x < N) /\ t ≠ d /\ e ≠ some t
theorem lK {α : Type} {o : Option α} (h : o.isNone = true) : o = none := by cases o with | none => rfl | some _ => cases h
theorem sE {ops : Array Oper} {x : XCode} (h : sD P N ops = some x) : (∃ d y xs, Ad P N ops d y xs /\ x = .nexts d y xs) \/ ∃ t d e g, Ae P N ops t d e g /\ x = .sortr t d e g := by
 unfold sD at h
 split at h
 ·rename_i z hz
  injection h with h; subst h
  left
  unfold EI at hz
  split at hz
  ·rename_i o r hl
   split at hz
   ·rename_i y ho
    split at hz
    ·rename_i hg
     split at hz
     ·rename_i xs hxs
      injection hz with hz
      exact ⟨_, _, _, ⟨o, r, hl, ho, lK hg.1, hg.2, rfl, hxs⟩, hz.symm⟩
     ·cases hz
    ·cases hz
   ·cases hz
  ·cases hz
 ·right
  unfold EJ at h
  split at h
  ·rename_i p q hl
   split at h
   ·rename_i t d c hp hd hq
    split at h
    ·rename_i g d' hcal hargs
     split at h
     ·rename_i hcond
      injection h with h
      simp only [Rj, decide_eq_true_eq] at hcond
      obtain ⟨⟨⟨⟨⟨⟨⟨_, h2⟩, h3⟩, h4⟩, h5⟩, h6⟩, h7⟩, h8⟩ := hcond
      subst h2
      have e : q.op = .call { callee := .value (.func g), args := #[.tmp d'], argTypes := c.argTypes } := by
       rw [hq]
       obtain ⟨cal, args, ts'⟩ := c
       congr 1
       simp only at hcal hargs
       subst hcal
       rw [<- Ri (xs := args), hargs]
      refine ⟨t, d', q.dst, g, ⟨p, q, c.argTypes, hl, hp, hd, lK h6, e, rfl, lK h7, h4, h5, fun x hx => ?_, h3, fun hx => ?_⟩, h.symm⟩
      ·rw [hx] at h8; simp [Bi] at h8; exact h8.1
      ·rw [hx] at h8; simp [Bi] at h8
     ·cases h
    ·cases h
   ·cases h
  ·cases h
theorem aD {id : Nat} {ops : Array Oper} {b : Bool} {x : XCode} (h : aP P N (.region id ops b) = some x) : (b = false /\ ∃ xs, ops.toList.mapM (bB P N ops) = some xs /\ x = .ops xs) \/ (b = true /\ (Region.noSelect ops = true /\ ng ops = true) /\ ∃ t, gu P N ops ops.size (Ru ops.size false) = some t /\ x = .draws t) \/
  (b = false /\ ∃ d y xs, Ad P N ops d y xs /\ x = .nexts d y xs) \/ (b = false /\ ∃ t d e g, Ae P N ops t d e g /\ x = .sortr t d e g) := by
 cases b with
 | false =>
  unfold aP at h
  split at h
  ·rename_i z hz
   injection h with h; subst h
   rcases sE hz with h1 | h1
   ·exact .inr (.inr (.inl ⟨rfl, h1⟩))
   ·exact .inr (.inr (.inr ⟨rfl, h1⟩))
  ·cases hx : ops.toList.mapM (bB P N ops) with
   | none => rw [hx] at h; cases h
   | some xs => rw [hx] at h; injection h with h; exact .inl ⟨rfl, xs, rfl, h.symm⟩
 | true =>
  unfold aP at h
  split at h
  ·rename_i hs
   cases hx : gu P N ops ops.size (Ru ops.size false) with
   | none => rw [hx] at h; cases h
   | some t => rw [hx] at h; injection h with h; exact .inr (.inl ⟨rfl, hs, t, rfl, h.symm⟩)
  ·cases h
end
def sV (P : Program) (N : Nat) (x : XCode) (c : Code) : Prop := ∀ (rr : Option Nat) (C : Ctx) (m : Frm), C.G0.boxv.length = m.h.length -> C.G0.boxes.length = m.h.length -> (db C.G0 m.h /\ (m.plain -> ∀ b, ¬ C.T b)) -> x.okIn rr -> ∀ (s : St) (K : XExit -> St -> Prop), dH P m x s K -> ∀ (G : Ghost) (cls : Nat -> Id) (a : Act) (w : World), Rel C N G cls s a w -> c.wpIn (Fr rr) 0 P (post C N K) a w
section
variable {P : Program} {N : Nat}
theorem ui {rec : Loop} {xas xbd : XCode} (hsA : sV P N xas rec.assign) (hsB : sV P N xbd rec.body) (hoA : ∀ l, xas.okIn (some l)) (hoB : ∀ l, xbd.okIn (some l)) {s : St} (hp : ∀ t, find s.own t = none -> (s.look t).idOf = none) (hN : rec.tmps.size = N) {ps : List Nat} (hps : rec.params = ps.toArray) (hnd : nodupB ps = true) (hlt : ∀ p ∈ ps, p < N)
  {args : List AV} (hlen : args.length = ps.length) (hid : ∀ y ∈ args, y.idOf = none) {i : Nat} {h h' : List (List AV)} {wr : List Nat} {stop : Bool} {e : XExit} {c : Code} (hec : stop = true -> e ≠ .normal /\ c = e.code) (hi : h[i]? = some (bf false false))
  (hx : dH P ⟨h, args⟩ xas (s.round ps args h) (XExit.then (fun s1 => s1.heap[i]? = some (bf false false) /\ dH P ⟨h, args⟩ xbd (s1.turn i true false) (PG i h.length stop e h' wr)) (fun _ _ => False))) :
  lA P i rec c (slotsOf N s) args h (.v (.bool !stop)) h' wr := by
 intro G w vs cls b hy hW hS hvs hown hoh
 obtain ⟨hb, hk, hs⟩ : G.boxes[i]? = some b /\ G.kinds b = some (.loop rec c) /\ ∀ j x, (slotsOf N s)[j]? = some x -> Sees G x (rec.tmps.toList.getD j undef) := by
  cases hy with | yld _ _ _ _ _ hb hk hl hs => exact ⟨hb, hk, hs⟩
 have hq : w.heap[b]? = some (.loop { rec with state := .ready, pending := none }) := (hW.obj.kbox i b _ _ hb (cU hS hi) hk).1
 have e1 : G.boxv.length = h.length := hS.1.symm
 have e2 : G.boxes.length = h.length := by rw [<- hW.len]; exact e1
 have hR0 := Rel.roundStart (args := args) (ps := ps) (r := rec) hp hN hs hW hS hvs hid hoh hnd hlen.symm hlt
 have hfold : (rec.params.zip vs.toArray).foldl (fun tmps (t, a) => tmps.setIfInBounds t a) rec.tmps = (ps.zip vs).foldl (fun (tmps : Array Value) (p : Nat × Value) => tmps.setIfInBounds p.1 p.2) rec.tmps := by
  rw [hps]; simp [List.zip_toArray]
 have hyr := run_yield (P := P) (args := vs.toArray) hq (by show _ = rec.params.size; rw [hps]; simp [hvs.1, hlen])
 refine ⟨rec.fn, _, rec.assign, rec.body, hyr, roundIn_of_wpIn trivial ?_⟩
 show rec.assign.wpIn (Fr (some b)) 0 P _ { tmps := (rec.params.zip vs.toArray).foldl (fun tmps (t, a) => tmps.setIfInBounds t a) rec.tmps, defers := [] } w
 rw [hfold]
 refine wpIn_mono (hsA (some b) ⟨G, az G args vs h⟩ ⟨h, args⟩ e1 e2 ⟨hS, fun hp => gj (m := ⟨h, args⟩) hp⟩ (hoA b) _ _ hx G cls _ w hR0) fun ex a1 w1 hh => ?_
 cases ex with
 | normal =>
  obtain ⟨s1, G1, cls1, hR1, h1i, hxb⟩ := hh
  have hb1 : G1.boxes[i]? = some b := hR1.ext.box_at hb
  have hk1 : G1.kinds b = some (.loop rec c) := (hR1.ext.kindsE hb).trans hk
  have hq1 : w1.heap[b]? = some (.loop { rec with state := .ready, pending := none }) := (hR1.ok.obj.kbox i b _ _ hb1 (cU hR1.heap h1i) hk1).1
  refine ⟨_, run_beginRound hq1 rfl, ?_⟩
  have hR2 := hR1.turn hb1 hk1 h1i true false
  refine wpIn_mono (hsB (some b) ⟨G, az G args vs h⟩ ⟨h, args⟩ e1 e2 ⟨hS, fun hp => gj (m := ⟨h, args⟩) hp⟩ (hoB b) _ _ hxb _ _ _ _ hR2) fun ex a3 w3 hh => ?_
  have fin : ∀ (ex : XExit) (jump : Option Code), (ex = .normal -> jump = none) -> (ex ≠ .normal -> jump = some ex.code) -> ∀ (s3 : St) (G3 : Ghost) (cls3 : Nat -> Id), Rel ⟨G, az G args vs h⟩ N G3 cls3 s3 a3 w3 -> PG i h.length stop e h' wr ex s3 ->
    ∃ v w', (Instr.endRound b jump).run P w3 = .ok v w' /\ ∃ v' G' cls', Ending.returned v = .returned v' /\ After G (az G args vs h) (.v (.bool !stop)) h' wr v' G' cls' w' := by
   intro ex jump hj1 hj2 s3 G3 cls3 hR3 hr
   obtain ⟨he, hbusy, hst⟩ := hr
   have hb3 : G3.boxes[i]? = some b := hR3.ext.box_at hb
   have hk3 : G3.kinds b = some (.loop rec c) := (hR3.ext.kindsE hb).trans hk
   have hq3 : w3.heap[b]? = some (.loop { rec with state := .busy, pending := none }) := (hR3.ok.obj.kbox i b _ _ hb3 (cU hR3.heap hbusy) hk3).1
   have hR4 := hR3.turn hb3 hk3 hbusy false stop
   obtain ⟨G4, hA⟩ := sY e1 e2 hR4 hst (.bool !stop)
   have hend := run_endRound (P := P) jump hq3
   cases stop with
   | true =>
    rw [if_pos rfl] at he
    obtain ⟨hne, hce⟩ := hec rfl
    subst he
    obtain rfl := hj2 hne
    subst hce
    exact ⟨_, _, hend, _, _, _, rfl, hA⟩
   | false =>
    rw [if_neg (by simp)] at he
    obtain rfl := hj1 he
    exact ⟨_, _, hend, _, _, _, rfl, hA⟩
  cases ex with
  | normal => obtain ⟨s3, G3, cls3, hR3, hr⟩ := hh; exact fin .normal none (fun _ => rfl) (fun h => absurd rfl h) s3 G3 cls3 hR3 hr
  | ret => obtain ⟨s3, G3, cls3, hR3, hr⟩ := hh; exact fin .ret (some .ret) (fun h => by cases h) (fun _ => rfl) s3 G3 cls3 hR3 hr
  | exit id => obtain ⟨s3, G3, cls3, hR3, hr⟩ := hh; exact fin (.exit id) (some (.exit id)) (fun h => by cases h) (fun _ => rfl) s3 G3 cls3 hR3 hr
  | _ => exact hh.elim
 | ret => obtain ⟨_, _, _, _, hr⟩ := hh; exact hr.elim
 | exit id => obtain ⟨_, _, _, _, hr⟩ := hh; exact hr.elim
 | _ => exact hh.elim
theorem ug {C : Ctx} {m : Frm} {g : Operand} {ps : Array Tmp} {xas xbd : XCode} {c d : Code} (hsA : sV P N xas c) (hsB : sV P N xbd d) (hf : cm N g = true) (hnd : nodupB ps.toList = true) (hlt : ∀ t ∈ ps.toList, t < N) (hv : C.G0.boxv.length = m.h.length) (hb : C.G0.boxes.length = m.h.length) {s : St} {K : XExit -> St -> Prop} (h : dH P m (.range g ps.toList xas xbd) s K)
  {G : Ghost} {cls : Nat -> Id} {a : Act} {w : World} (hR : Rel C N G cls s a w) : (Code.rangeFunc g ps c d).wpIn (Fr none) 0 P (post C N K) a w := by
 obtain ⟨hoA, hoB, gf, cap, n, xs, all, R, e, H, wr, h3, E, hg, hcap, hIter, hH0, hRH, hround, hHn, h3l, h3lt, hK1, hK2⟩ := h
 refine wpIn_rangeFunc fun fn _ => ?_
 obtain ⟨rec, hrec⟩ : ∃ rec : Loop, rec = { state := .ready, pending := none, fn := fn, tmps := a.tmps, params := ps, assign := c, body := d, defers := w.heap.size } := ⟨_, rfl⟩
 have hgy := hR.get hf
 rw [hg] at hgy
 obtain ⟨us, vs, hgv, hus, hvl, _, hvs⟩ := hgy.inv_fn
 obtain rfl : us = [] := Rl hus
 have hil : s.heap.length = G.boxes.length := hR.heapLen
 have hR1 := hR.enterLoop rec e.code (by rw [hrec]) (by rw [hrec])
 have hE := (hR.ok.enterLoop rec e.code (by rw [hrec]) (by rw [hrec])).2
 have hyl : Sees (G.enterLoop w.heap.size rec e.code) (.yld s.heap.length rec e.code (slotsOf N s)) (.func (.yield (w.heap.size + 1)) #[] #[]) := by
  refine .yld _ _ _ _ _ ?_ ?_ (by rw [hrec]; simp [slotsOf, hR.size]) fun j x hj => ?_
  ·show (G.boxes ++ [w.heap.size + 1])[s.heap.length]? = _
   rw [hil]; simp
  ·show (if w.heap.size + 1 = w.heap.size + 1 then (some (Kind.loop rec e.code), 0) else G.kr (w.heap.size + 1)).1 = _
   rw [if_pos rfl]
  ·have hjN : j < N := by have := (Q7.1 hj).1; simpa [slotsOf] using this
   rw [mM N s j hjN] at hj
   injection hj with hj; subst hj
   have := (hR.env j hjN).1.unown.ext hE
   have e : rec.tmps.toList.getD j undef = a.tmps.getD j undef := by
    rw [hrec, Re, Rc]; simp
   rw [e]; exact this
 have hsl : SeesL (G.enterLoop w.heap.size rec e.code) (.yld s.heap.length rec e.code (slotsOf N s) :: cap) (.func (.yield (w.heap.size + 1)) #[] #[] :: vs) := SeesL.cons hyl ⟨hvl, fun j x hj => (hvs j x hj).ext hE⟩
 have hids : ∀ y ∈ (AV.yld s.heap.length rec e.code (slotsOf N s) :: cap), y.idOf = none := fun y hy => by
  rcases Rp.1 hy with rfl | hy
  ·rfl
  ·exact hcap y hy
 have hstop : ∀ j, (!all && j + 1 == n) = true -> e ≠ .normal /\ e.code = e.code := fun j hj => by
  cases all with
  | true => simp at hj
  | false => exact ⟨(hK2 rfl).1, rfl⟩
 have hC : ae P gf (bq 0 (.yld s.heap.length rec e.code (slotsOf N s) :: cap)) (s.heap ++ [bf false false]) (.tup []) (H n) wr := by
  rw [mj _ _ hids, <- hH0]
  refine hIter _ _ _ _ H wr hRH fun j hj => ?_
  obtain ⟨r1, r2, r3, r4⟩ := hround j hj
  exact ui (rec := rec) (by rw [hrec]; exact hsA) (by rw [hrec]; exact hsB) hoA hoB hR.plain (by rw [hrec]; exact hR.size) (by rw [hrec]) hnd hlt r1 r2 (hstop j) r3 r4
 refine ⟨w.heap.size + 1, [fe w.heap.size], (w.alloc (.deferred (some []))).alloc (.loop rec), { target := .fn (.func gf) vs.toArray, args := #[.func (.yield (w.heap.size + 1)) #[] #[]] }, (w.alloc (.deferred (some []))).alloc (.loop rec), gf,
  #[.func (.yield (w.heap.size + 1)) #[] #[]] ++ vs.toArray, (w.alloc (.deferred (some []))).alloc (.loop rec), ?_, ?_, fun _ _ => trivial, ?_, fun hh => (by cases hh), ?_⟩
 ·rw [hrec]; exact run_enterLoop_outer _ _ _ _ _
 ·simp only [resolve, hgv]
  simp [go_sem]
 ·simp [invoke, go_sem, gF hC.1]
 ·have e0 : #[.func (.yield (w.heap.size + 1)) #[] #[]] ++ vs.toArray = (Value.func (.yield (w.heap.size + 1)) #[] #[] :: vs).toArray := by simp
  rw [e0]
  refine (ns (jN hR1 hsl (fun i x hx => .none _ (hids x (Rb hx))) (by rw [iM _ hids]; exact List.nodup_nil) hC none (fun x hx => by cases hx))).mono ?_
  rintro _ w3 ⟨v, rfl, G', cls', hR2, hS2⟩
  have hbx : (G.enterLoop w.heap.size rec e.code).boxes[s.heap.length]? = some (w.heap.size + 1) := by
   show (G.boxes ++ [w.heap.size + 1])[s.heap.length]? = _
   rw [hil]; simp
  have hb' : G'.boxes[s.heap.length]? = some (w.heap.size + 1) := hS2.ext.box_at hbx
  have hk' : G'.kinds (w.heap.size + 1) = some (.loop rec e.code) := by
   rw [hS2.ext.kindsE hbx]
   show (if w.heap.size + 1 = w.heap.size + 1 then (some (Kind.loop rec e.code), 0) else G.kr (w.heap.size + 1)).1 = _
   rw [if_pos rfl]
  have hci : (H n)[s.heap.length]? = some (bf false !all) := by rw [hHn, <- h3l]; simp
  have hkill : be (.yld s.heap.length rec e.code (slotsOf N s) :: cap) = be [] := by
   funext y; unfold be; rw [iM _ hids]; rfl
  have htake : (H n).take s.heap.length = h3 := by rw [hHn, <- h3l]; simp
  have hm1 : C.G0.boxes.length <= s.heap.length := by
   obtain ⟨more, hmore⟩ := hR.ext.boxes
   rw [hil, hmore]; simp
  have hend : ∀ o : Obj, Rel C N (G'.trunc s.heap.length) cls' ⟨s.env, fb (be []) s.own, h3, wr ++ s.wr⟩ { a with defers := [fe w.heap.size] ++ a.defers } (w3.putObj (w.heap.size + 1) o) := fun o => by
   have := Rel.leaveLoop hR2 hb' hk' hci (by omega) hm1 (fun t ht => ?_) (by show aR _ ((H n).take _); rw [htake]; exact h3lt) o
   ·have eS : ({ (({ s with heap := s.heap ++ [bf false false] } : St).called (.yld s.heap.length rec e.code (slotsOf N s) :: cap) none (.tup []) (H n) wr) with heap := (H n).take s.heap.length } : St) = ⟨s.env, fb (be []) s.own, h3, wr ++ s.wr⟩ := by
     rw [htake]
     show St.mk s.env (fb (be _) s.own) h3 (wr ++ s.wr) = _
     rw [hkill]
    have this' : Rel C N (G'.trunc s.heap.length) cls' ({ (({ s with heap := s.heap ++ [bf false false] } : St).called (.yld s.heap.length rec e.code (slotsOf N s) :: cap) none (.tup []) (H n) wr) with heap := (H n).take s.heap.length } : St) { a with defers := [fe w.heap.size] ++ a.defers } (w3.putObj (w.heap.size + 1) o) := this
    rw [eS] at this'
    exact this'
   ·have := ((hR.kill (be (.yld s.heap.length rec e.code (slotsOf N s) :: cap))).env t ht).1.lt
    rw [<- hil] at this
    exact this
  have hq := (hR2.ok.obj.kbox _ _ _ _ hb' (cU hR2.heap hci) hk').1
  cases all with
  | true =>
   have hq : w3.heap[w.heap.size + 1]? = some (.loop { rec with state := .ready, pending := none }) := hq
   exact ⟨none, _, run_endLoop hq (by simp), _, _, _, hend _, hK1 rfl⟩
  | false =>
   have hq : w3.heap[w.heap.size + 1]? = some (.loop { rec with state := .done, pending := some e.code }) := hq
   obtain ⟨hne, hKe⟩ := hK2 rfl
   refine ⟨some e.code, _, run_endLoop hq (by simp), ?_⟩
   cases e with
   | normal => exact absurd rfl hne
   | ret => exact wpIn_ret ⟨_, _, _, hend _, hKe⟩
   | exit id => exact wpIn_exit ⟨_, _, _, hend _, hKe⟩
end
section
variable {P : Program} {N : Nat}
theorem xf (hm : P.follows .mixedOrders = true) : ∀ (x : XCode) (c : Code), aP P N c = some x.strip -> sV P N x c := by
 intro x
 induction x with
 | cut y ih =>
  intro c hc rr C m hv hb hB hok s K h G cls a w hR
  obtain ⟨s2, h1, h2⟩ := h
  obtain ⟨G2, hR2⟩ := h1.rel hv hb hR
  exact ih c hc rr C m hv hb hB hok s2 K h2 G2 cls a w hR2
 | mark y ih => intro c hc rr C m hv hb hB hok s K h G cls a w hR; exact ih c hc rr C m hv hb hB hok s K h G cls a w hR
 | skip =>
  intro c0 hc rr C m hv hb hB hok s K h G cls a w hR
  obtain ⟨c, hbare, hcc, lift⟩ := cA (P := P) (C := C) (N := N) (rr := rr) c0
  rw [hcc] at hc
  apply lift
  cases c with
  | skip => exact wpIn_skip ⟨s, G, cls, hR, h⟩
  | label l => exact wpIn_label ⟨s, G, cls, hR, h⟩
  | scope c => cases hbare
  | region i o b => rcases aD hc with ⟨_, xs, _, e⟩ | ⟨_, _, t, _, e⟩ | ⟨_, _, _, _, _, e⟩ | ⟨_, _, _, _, _, _, e⟩ <;> cases e
  | seq c d => obtain ⟨_, _, _, _, e⟩ := bv hc; cases e
  | cond y c d => obtain ⟨_, _, _, _, _, e⟩ := aV hc; cases e
  | block i c => obtain ⟨_, _, e⟩ := aL hc; cases e
  | loop c => obtain ⟨_, _, e⟩ := aW hc; cases e
  | rangeFunc g ps c d => obtain ⟨_, _, _, _, _, _, _, e⟩ := aM hc; cases e
  | _ => cases hc
 | exit id =>
  intro c0 hc rr C m hv hb hB hok s K h G cls a w hR
  obtain ⟨c, hbare, hcc, lift⟩ := cA (P := P) (C := C) (N := N) (rr := rr) c0
  rw [hcc] at hc
  apply lift
  cases c with
  | exit i =>
   have e : i = id := by have := hc; unfold aP XCode.strip at this; injection this with this; injection this
   subst e
   exact wpIn_exit ⟨s, G, cls, hR, h⟩
  | scope c => cases hbare
  | region i o b => rcases aD hc with ⟨_, xs, _, e⟩ | ⟨_, _, t, _, e⟩ | ⟨_, _, _, _, _, e⟩ | ⟨_, _, _, _, _, _, e⟩ <;> cases e
  | seq c d => obtain ⟨_, _, _, _, e⟩ := bv hc; cases e
  | cond y c d => obtain ⟨_, _, _, _, _, e⟩ := aV hc; cases e
  | block i c => obtain ⟨_, _, e⟩ := aL hc; cases e
  | loop c => obtain ⟨_, _, e⟩ := aW hc; cases e
  | rangeFunc g ps c d => obtain ⟨_, _, _, _, _, _, _, e⟩ := aM hc; cases e
  | _ => cases hc
 | ret =>
  intro c0 hc rr C m hv hb hB hok s K h G cls a w hR
  obtain ⟨c, hbare, hcc, lift⟩ := cA (P := P) (C := C) (N := N) (rr := rr) c0
  rw [hcc] at hc
  apply lift
  cases c with
  | ret => exact wpIn_ret ⟨s, G, cls, hR, h⟩
  | scope c => cases hbare
  | region i o b => rcases aD hc with ⟨_, xs, _, e⟩ | ⟨_, _, t, _, e⟩ | ⟨_, _, _, _, _, e⟩ | ⟨_, _, _, _, _, _, e⟩ <;> cases e
  | seq c d => obtain ⟨_, _, _, _, e⟩ := bv hc; cases e
  | cond y c d => obtain ⟨_, _, _, _, _, e⟩ := aV hc; cases e
  | block i c => obtain ⟨_, _, e⟩ := aL hc; cases e
  | loop c => obtain ⟨_, _, e⟩ := aW hc; cases e
  | rangeFunc g ps c d => obtain ⟨_, _, _, _, _, _, _, e⟩ := aM hc; cases e
  | _ => cases hc
 | ops xs =>
  intro c0 hc rr C m hv hb hB hok s K h G cls a w hR
  obtain ⟨c, hbare, hcc, lift⟩ := cA (P := P) (C := C) (N := N) (rr := rr) c0
  rw [hcc] at hc
  apply lift
  cases c with
  | region i ops b =>
   rcases aD hc with ⟨rfl, ys, hx, e⟩ | ⟨_, _, t, _, e⟩ | ⟨_, _, _, _, _, e⟩ | ⟨_, _, _, _, _, _, e⟩
   ·injection e with e; subst e
    obtain ⟨s', ld', h1, h2⟩ := lw xs s [] _ h
    exact wpIn_region_list (oo (C := C) ops h2 _ hx G cls a w hR fun a' w' G' cls' hR' _ => ⟨s', G', cls', hR', h1⟩)
   ·cases e
   ·cases e
   ·cases e
  | scope c => cases hbare
  | seq c d => obtain ⟨_, _, _, _, e⟩ := bv hc; cases e
  | cond y c d => obtain ⟨_, _, _, _, _, e⟩ := aV hc; cases e
  | block i c => obtain ⟨_, _, e⟩ := aL hc; cases e
  | loop c => obtain ⟨_, _, e⟩ := aW hc; cases e
  | rangeFunc g ps c d => obtain ⟨_, _, _, _, _, _, _, e⟩ := aM hc; cases e
  | _ => cases hc
 | draws t =>
  intro c0 hc rr C m hv hb hB hok s K h G cls a w hR
  obtain ⟨c, hbare, hcc, lift⟩ := cA (P := P) (C := C) (N := N) (rr := rr) c0
  rw [hcc] at hc
  apply lift
  cases c with
  | region i ops b =>
   rcases aD hc with ⟨_, xs, _, e⟩ | ⟨rfl, ⟨hs, hnd⟩, u, hx, e⟩ | ⟨_, _, _, _, _, e⟩ | ⟨_, _, _, _, _, _, e⟩
   ·cases e
   ·injection e with e; subst e
    exact tn hm hs hnd (fun _ _ h => h) hx hR h fun s' G' cls' a' w' h1 h2 => ⟨s', G', cls', h2, h1⟩
   ·cases e
   ·cases e
  | scope c => cases hbare
  | seq c d => obtain ⟨_, _, _, _, e⟩ := bv hc; cases e
  | cond y c d => obtain ⟨_, _, _, _, _, e⟩ := aV hc; cases e
  | block i c => obtain ⟨_, _, e⟩ := aL hc; cases e
  | loop c => obtain ⟨_, _, e⟩ := aW hc; cases e
  | rangeFunc g ps c d => obtain ⟨_, _, _, _, _, _, _, e⟩ := aM hc; cases e
  | _ => cases hc
 | seq y z ihy ihz =>
  intro c0 hc rr C m hv hb hB hok s K h G cls a w hR
  obtain ⟨c, hbare, hcc, lift⟩ := cA (P := P) (C := C) (N := N) (rr := rr) c0
  rw [hcc] at hc
  apply lift
  cases c with
  | seq c d =>
   obtain ⟨y', z', hy, hz, e⟩ := bv hc
   injection e with e1 e2
   subst e1 e2
   refine wpIn_seq (wpIn_mono (ihy c hy rr C m hv hb hB hok.1 s _ h G cls a w hR) fun e a' w' hh => ?_)
   cases e with
   | normal => obtain ⟨s', G', cls', h1, h2⟩ := hh; exact ihz d hz rr C m hv hb hB hok.2 s' K h2 G' cls' a' w' h1
   | _ => exact hh
  | region i o b => rcases aD hc with ⟨_, xs, _, e⟩ | ⟨_, _, t, _, e⟩ | ⟨_, _, _, _, _, e⟩ | ⟨_, _, _, _, _, _, e⟩ <;> cases e
  | scope c => cases hbare
  | cond y c d => obtain ⟨_, _, _, _, _, e⟩ := aV hc; cases e
  | block i c => obtain ⟨_, _, e⟩ := aL hc; cases e
  | loop c => obtain ⟨_, _, e⟩ := aW hc; cases e
  | rangeFunc g ps c d => obtain ⟨_, _, _, _, _, _, _, e⟩ := aM hc; cases e
  | _ => cases hc
 | cond v p q ihp ihq =>
  intro c0 hc rr C m hv hb hB hok s K h G cls a w hR
  obtain ⟨c, hbare, hcc, lift⟩ := cA (P := P) (C := C) (N := N) (rr := rr) c0
  rw [hcc] at hc
  apply lift
  cases c with
  | cond y c d =>
   obtain ⟨p', q', hf, hp, hq, e⟩ := aV hc
   injection e with e1 e2 e3
   subst e1 e2 e3
   unfold dH ry at h
   split at h
   ·rename_i t ht
    have h1 := hR.get hf
    rw [ht] at h1
    exact wpIn_cond_split h1.inv_v (fun e => ihp c hp rr C m hv hb hB hok.1 s K (h.1 e) G cls a w hR) (fun e => ihq d hq rr C m hv hb hB hok.2 s K (h.2 e) G cls a w hR)
   ·exact h.elim
  | region i o b => rcases aD hc with ⟨_, xs, _, e⟩ | ⟨_, _, t, _, e⟩ | ⟨_, _, _, _, _, e⟩ | ⟨_, _, _, _, _, _, e⟩ <;> cases e
  | scope c => cases hbare
  | seq c d => obtain ⟨_, _, _, _, e⟩ := bv hc; cases e
  | block i c => obtain ⟨_, _, e⟩ := aL hc; cases e
  | loop c => obtain ⟨_, _, e⟩ := aW hc; cases e
  | rangeFunc g ps c d => obtain ⟨_, _, _, _, _, _, _, e⟩ := aM hc; cases e
  | _ => cases hc
 | block id y ih =>
  intro c0 hc rr C m hv hb hB hok s K h G cls a w hR
  obtain ⟨c, hbare, hcc, lift⟩ := cA (P := P) (C := C) (N := N) (rr := rr) c0
  rw [hcc] at hc
  apply lift
  cases c with
  | block i c =>
   obtain ⟨y', hy, e⟩ := aL hc
   injection e with e1 e2
   subst e1 e2
   refine wpIn_block (wpIn_mono (ih c hy rr C m hv hb hB hok s _ h G cls a w hR) fun e a' w' hh => ?_)
   cases e with
   | exit i =>
    obtain ⟨s', G', cls', h1, h2⟩ := hh
    replace h2 : if i = id then K .normal s' else K (.exit i) s' := h2
    show if i = id then _ else _
    split
    ·rename_i e; rw [if_pos e] at h2; exact ⟨s', G', cls', h1, h2⟩
    ·rename_i e; rw [if_neg e] at h2; exact ⟨s', G', cls', h1, h2⟩
   | _ => exact hh
  | region i o b => rcases aD hc with ⟨_, xs, _, e⟩ | ⟨_, _, t, _, e⟩ | ⟨_, _, _, _, _, e⟩ | ⟨_, _, _, _, _, _, e⟩ <;> cases e
  | scope c => cases hbare
  | seq c d => obtain ⟨_, _, _, _, e⟩ := bv hc; cases e
  | cond y c d => obtain ⟨_, _, _, _, _, e⟩ := aV hc; cases e
  | loop c => obtain ⟨_, _, e⟩ := aW hc; cases e
  | rangeFunc g ps c d => obtain ⟨_, _, _, _, _, _, _, e⟩ := aM hc; cases e
  | _ => cases hc
 | loop y ih =>
  intro c0 hc rr C m hv hb hB hok s K h G cls a w hR
  obtain ⟨c, hbare, hcc, lift⟩ := cA (P := P) (C := C) (N := N) (rr := rr) c0
  rw [hcc] at hc
  apply lift
  cases c with
  | loop c =>
   obtain ⟨y', hy, e⟩ := aW hc
   injection e with e1
   subst e1
   obtain ⟨D, inv, μ, ⟨d0, h0⟩, hround⟩ := h
   classical
   obtain ⟨G0, hR0⟩ := h0.rel hv hb hR
   let I : Act -> World -> Prop := fun a w => ∃ d G cls, Rel C N G cls (inv d) a w
   let ok : Act -> World -> Nat -> Prop := fun a w n => ∃ d G cls, μ d = n /\ Rel C N G cls (inv d) a w
   let rank : Act -> World -> Nat := fun a w => if h : ∃ n, ok a w n then RE (least h) else 0
   have hrank : ∀ a w, I a w -> ok a w (rank a w) := fun a w hI => by
    have hex : ∃ n, ok a w n := by obtain ⟨d, G, cls, hR⟩ := hI; exact ⟨μ d, d, G, cls, rfl, hR⟩
    show ok a w (if h : ∃ n, ok a w n then RE (least h) else 0)
    rw [dif_pos hex]; exact (RL (least hex)).1
   have hmin : ∀ a w n, ok a w n -> rank a w <= n := fun a w n hn => by
    show (if h : ∃ n, ok a w n then RE (least h) else 0) <= n
    rw [dif_pos ⟨n, hn⟩]; exact (RL (least ⟨n, hn⟩)).2 n hn
   refine wpIn_loop I rank ⟨d0, G0, cls, hR0⟩ fun a w hI => ?_
   obtain ⟨d, G, cls, hd, hR⟩ := hrank a w hI
   refine wpIn_mono (ih c hy rr C m hv hb hB hok (inv d) _ (hround d) G cls a w hR) fun e a' w' hh => ?_
   cases e with
   | normal =>
    obtain ⟨s', G', cls', h1, d', h2, h3⟩ := hh
    obtain ⟨G2, h4⟩ := h3.rel hv hb h1
    refine ⟨⟨d', G2, cls', h4⟩, ?_⟩
    have := hmin a' w' (μ d') ⟨d', G2, cls', rfl, h4⟩
    omega
   | _ => exact hh
  | region i o b => rcases aD hc with ⟨_, xs, _, e⟩ | ⟨_, _, t, _, e⟩ | ⟨_, _, _, _, _, e⟩ | ⟨_, _, _, _, _, _, e⟩ <;> cases e
  | scope c => cases hbare
  | seq c d => obtain ⟨_, _, _, _, e⟩ := bv hc; cases e
  | cond y c d => obtain ⟨_, _, _, _, _, e⟩ := aV hc; cases e
  | block i c => obtain ⟨_, _, e⟩ := aL hc; cases e
  | rangeFunc g ps c d => obtain ⟨_, _, _, _, _, _, _, e⟩ := aM hc; cases e
  | _ => cases hc
 | range v qs xas xbd iha ihb =>
  intro c0 hc rr C m hv hb hB hok s K h G cls a w hR
  obtain ⟨c, hbare, hcc, lift⟩ := cA (P := P) (C := C) (N := N) (rr := rr) c0
  rw [hcc] at hc
  apply lift
  cases c with
  | rangeFunc g ps c d =>
   obtain ⟨y, z, hf, hnd, hlt, hy, hz, e⟩ := aM hc
   injection e with e1 e2 e3 e4
   subst e1 e2 e3 e4
   obtain rfl : rr = none := hok
   exact ug (iha c hy) (ihb d hz) hf hnd hlt hv hb h hR
  | region i o b => rcases aD hc with ⟨_, xs, _, e⟩ | ⟨_, _, t, _, e⟩ | ⟨_, _, _, _, _, e⟩ | ⟨_, _, _, _, _, _, e⟩ <;> cases e
  | scope c => cases hbare
  | seq c d => obtain ⟨_, _, _, _, e⟩ := bv hc; cases e
  | cond y c d => obtain ⟨_, _, _, _, _, e⟩ := aV hc; cases e
  | block i c => obtain ⟨_, _, e⟩ := aL hc; cases e
  | loop c => obtain ⟨_, _, e⟩ := aW hc; cases e
  | _ => cases hc
 | nexts d x xs =>
  intro c0 hc rr C m hv hb hB hok s K h G cls a w hR
  obtain ⟨c, hbare, hcc, lift⟩ := cA (P := P) (C := C) (N := N) (rr := rr) c0
  rw [hcc] at hc
  apply lift
  cases c with
  | region i ops b =>
   rcases aD hc with ⟨_, xs, _, e⟩ | ⟨_, _, t, _, e⟩ | ⟨rfl, d, y, ys, hN, e⟩ | ⟨rfl, t, d, f, g, hN, e⟩
   ·cases e
   ·cases e
   ·injection e with e1 e2 e3
    subst e1 e2 e3
    obtain ⟨o, r, hl, ho, hg, hf, rfl, hr⟩ := hN
    refine wpIn_region_list ?_
    rw [hl]
    unfold wpListIn
    rw [if_pos (by simp [Region.wanted, hg])]
    refine Oper.wpIn_mono (fun a' w' hh => ?_) (lc (fun c e => by rw [ho] at e; cases e) (AD (Q := post C N K) o _ ho (fun s' => eG P xs s' [] fun s' _ => K .normal s') h hf hR))
    obtain ⟨s1, G1, cls1, hx, hR1⟩ := hh
    obtain ⟨s', ld', h1, h2⟩ := lw xs s1 [] _ hx
    exact oo (C := C) ops h2 _ hr G1 cls1 a' w' hR1 fun a2 w2 G' cls' hR' _ => ⟨s', G', cls', hR', h1⟩
   ·cases e
  | scope c => cases hbare
  | seq c d => obtain ⟨_, _, _, _, e⟩ := bv hc; cases e
  | cond y c d => obtain ⟨_, _, _, _, _, e⟩ := aV hc; cases e
  | block i c => obtain ⟨_, _, e⟩ := aL hc; cases e
  | loop c => obtain ⟨_, _, e⟩ := aW hc; cases e
  | rangeFunc g ps c d => obtain ⟨_, _, _, _, _, _, _, e⟩ := aM hc; cases e
  | _ => cases hc
 | sortr t d e g =>
  intro c0 hc rr C m hv hb hB hok s K h G cls a w hR
  obtain ⟨c, hbare, hcc, lift⟩ := cA (P := P) (C := C) (N := N) (rr := rr) c0
  rw [hcc] at hc
  apply lift
  cases c with
  | region i ops b =>
   rcases aD hc with ⟨_, xs, _, e0⟩ | ⟨_, _, t, _, e0⟩ | ⟨rfl, d, y, ys, hN, e0⟩ | ⟨rfl, t2, d2, f2, g2, hN, e0⟩
   ·cases e0
   ·cases e0
   ·cases e0
   ·injection e0 with e1 e2 e3 e4
    subst e1 e2 e3 e4
    obtain ⟨p, q, ts, hl, hp, hpd, hpg, hq, hqd, hqg, ht, hd, he, htd, hte⟩ := hN
    obtain ⟨us, us', k, nul, room, hlook, hroom, hI, hpl, hwr, hK⟩ := h
    obtain ⟨ad, cap, hval, hcalls⟩ := hR.sorted hv hb hB.1 hB.2 hpl hwr ht hd he htd hte hlook hroom hI
    refine wpIn_region_list ?_
    rw [hl]
    unfold wpListIn
    rw [if_pos (by simp [Region.wanted, hpg])]
    refine lc (fun c e => by rw [hp] at e; cases e) ?_
    have hr1 : (execOp a.eval p).run P w = .ok (.value (.slice ad us.length cap)) w := by
     have e1 : a.eval (.tmp t) = .slice ad us.length cap := hval
     unfold execOp; rw [hp]; simp only [e1]; rfl
    unfold Oper.wp
    rw [hr1]
    show wpListIn (Fr rr) 0 P ops (post C N K) [q] (a.put p.dst (.slice ad us.length cap)) w
    rw [hpd]
    unfold wpListIn
    rw [if_pos (by simp [Region.wanted, hqg])]
    refine lc (fun c e => by rw [hq] at e; cases e) ?_
    have ev : (a.put (some d) (.slice ad us.length cap)).eval (.tmp d) = .slice ad us.length cap := (pn (by rw [hR.size]; exact hd) _).trans (if_pos rfl)
    have hrun : (execOp (a.put (some d) (.slice ad us.length cap)).eval q).run P w = .ok (.enter g #[.slice ad us.length cap]) w := by
     simp only [execOp, hq, resolve, Deferred.ofValue, Sem.run_bind, Sem.run_pure, Result.andThen_ok, invoke, Array.empty_append, Array.append_empty, RC, Ry, RQ, ev]
     exact gF hI.1 _ w
    unfold Oper.wp
    rw [hrun]
    refine hcalls.mono fun r w' hh => ?_
    obtain ⟨rfl, hR2⟩ := hh
    obtain ⟨G', cls', hR3⟩ := hR2 (.slice ad us.length cap) (.tuple #[])
    show wpListIn (Fr rr) 0 P ops (post C N K) [] _ w'
    rw [hqd]
    exact ⟨_, G', cls', hR3, hK⟩
  | scope c => cases hbare
  | seq c d => obtain ⟨_, _, _, _, e⟩ := bv hc; cases e
  | cond y c d => obtain ⟨_, _, _, _, _, e⟩ := aV hc; cases e
  | block i c => obtain ⟨_, _, e⟩ := aL hc; cases e
  | loop c => obtain ⟨_, _, e⟩ := aW hc; cases e
  | rangeFunc g ps c d => obtain ⟨_, _, _, _, _, _, _, e⟩ := aM hc; cases e
  | _ => cases hc
theorem zY {rr : Option Nat} {C : Ctx} {m : Frm} (hm : P.follows .mixedOrders = true) (hv : C.G0.boxv.length = m.h.length) (hb : C.G0.boxes.length = m.h.length) (hB : db C.G0 m.h /\ (m.plain -> ∀ b, ¬ C.T b)) (x : XCode) (hok : x.okIn rr) (c : Code) (hc : aP P N c = some x.strip) (s : St) (K : XExit -> St -> Prop) (h : dH P m x s K) (G : Ghost) (cls : Nat -> Id) (a : Act) (w : World) (hR : Rel C N G cls s a w) : c.wpIn (Fr rr) 0 P (post C N K) a w :=
 xf hm x c hc rr C m hv hb hB hok s K h G cls a w hR
end
def XCode.cuts : List Bool -> XCode -> XCode
 | true :: r, .seq a b => .mark (.seq a (.cut (XCode.cuts r b)))
 | false :: r, .seq a b => .seq a (XCode.cuts r b)
 | _, c => c
def XCode.inside (f : XCode -> XCode) : List Nat -> XCode -> XCode
 | [], c => f c
 | 0 :: r, .seq a b => .seq (XCode.inside f r a) b
 | _ :: r, .seq a b => .seq a (XCode.inside f r b)
 | 0 :: r, .cond x a b => .cond x (XCode.inside f r a) b
 | _ :: r, .cond x a b => .cond x a (XCode.inside f r b)
 | _ :: r, .block id a => .block id (XCode.inside f r a)
 | _ :: r, .loop a => .loop (XCode.inside f r a)
 | 0 :: r, .range x ps a b => .range x ps (XCode.inside f r a) b
 | _ :: r, .range x ps a b => .range x ps a (XCode.inside f r b)
 | _ :: r, .cut a => .cut (XCode.inside f r a)
 | _ :: r, .mark a => .mark (XCode.inside f r a)
 | _, c => c
end Go.Proofs.YtknohkmpficjgaaGreatDoor.Ax
