import Derived.Test.YtdfgljojemmlcaaGreatQAxXr
import Derived.Test.YtdfgljojemmlcaaGreatRows
import Derived.Test.YtdfgljojemmlcaaGreatQAxBt
import Derived.Test.YtdfgljojemmlcaaGreatQAxFq
import Derived.Test.YtdfgljojemmlcaaGreatQAxFl
import Derived.Test.YtdfgljojemmlcaaGreatQAxUa
set_option linter.unusedSimpArgs false
set_option linter.unusedVariables false
set_option linter.ambiguousOpen false
namespace Go.Proofs.YtdfgljojemmlcaaGreat.Ax
open Go.RowKit Go By
end Go.Proofs.YtdfgljojemmlcaaGreat.Ax
namespace Go.Proofs.YtdfgljojemmlcaaGreat.Ax
open Go.RowKit Go By Nm Sc Dg
set_option maxRecDepth 10000
def BkShort (m : Bk) : Prop := (m.tag.length <= 1000000 /\ m.name.length <= 1000000 /\ m.value.length <= 1000000) /\ (∀ c ∈ m.cols, c.name.length <= 1000000) /\ ∀ c ∈ m.fields, c.text.length <= 1000000
end Go.Proofs.YtdfgljojemmlcaaGreat.Ax
namespace Go.Proofs.YtdfgljojemmlcaaGreat.Ax
open Go.RowKit Go By Nm Sc Dg
open He (textL)
set_option maxRecDepth 10000
end Go.Proofs.YtdfgljojemmlcaaGreat.Ax
namespace Go.Proofs.YtdfgljojemmlcaaGreat.Ax
open Go.RowKit Go By Sc Dg
set_option maxRecDepth 10000
theorem fmC_plain (m : Fm) : ∀ c ∈ fmC m, c.idOf = none := by intro c hc; rw [fmC_mk] at hc; simp at hc; rcases hc with rfl | rfl | rfl | rfl | rfl | rfl | rfl | rfl | rfl | rfl <;> rfl
theorem enC_plain1 (m : En) : ∀ c ∈ enC m, c.idOf = none := by intro c hc; rw [enC_mk] at hc; simp at hc; rcases hc with rfl | rfl | rfl | rfl | rfl | rfl | rfl | rfl <;> rfl
theorem fmE : Elt fmC 10 := ⟨by omega, fun _ => rfl, fmC_plain, fun a n => by simp⟩
theorem enE : Elt enC 8 := ⟨by omega, fun _ => rfl, enC_plain1, fun a n => by simp⟩
section
variable {α : Type} {f : α -> List AV} {k : Nat}
def LsV (f : α -> List AV) (k : Nat) (h : List (List AV)) (v : AV) (L : List α) : Prop :=
 (∃ nul, v = .sl 0 [] nul .exact /\ nul ≠ some false /\ L = []) \/ (∃ nul, v = .sl k (enc f L) nul .exact /\ L ≠ []) \/ ∃ b, v = .bsl b 0 k L.length /\ h[b]? = some (enc f L).flatten /\ L ≠ []
def killV (v : AV) (h : List (List AV)) : List (List AV) := match v with
 | .bsl b _ _ _ => h.set b []
 | _ => h
def kwV (v : AV) : List Nat := match v with
 | .bsl b _ _ _ => [b]
 | _ => []
theorem killV_len (v : AV) (h : List (List AV)) : (killV v h).length = h.length := by unfold killV; split <;> simp
theorem killV_get {v : AV} {h : List (List AV)} {q : Nat} (hq : q ∉ kwV v) : (killV v h)[q]? = h[q]? := by
 unfold killV kwV at *
 split
 ·rename_i b _ _ _
  rw [List.getElem?_set_ne]
  intro e; subst e; exact hq (by simp)
 ·rfl
theorem killV_lt {v : AV} {h : List (List AV)} {n : Nat} (hl : ltLL n h) : ltLL n (killV v h) := by
 unfold killV; split
 ·exact ltLL_set hl trivial
 ·exact hl
theorem killV_app {v : AV} {h xs : List (List AV)} (hv : ∀ q ∈ kwV v, q < h.length) : killV v (h ++ xs) = killV v h ++ xs := by
 unfold killV kwV at *
 split
 ·rename_i b _ _ _
  exact List.set_append_left _ _ (hv b (by simp))
 ·rfl
theorem killV_plain {v : AV} {h : List (List AV)} (hp : plainH h) : plainH (killV v h) := by
 unfold killV; split
 ·exact plainH_set hp (fun c hc => by simp at hc) _
 ·exact hp
variable {h : List (List AV)} {v : AV} {L : List α}
theorem LsV.bl (hv : LsV f k h v L) : ∀ q ∈ kwV v, q < h.length := fun q hq => by
 rcases hv with ⟨_, rfl, _⟩ | ⟨_, rfl, _⟩ | ⟨b, rfl, hb, _⟩
 ·simp [kwV] at hq
 ·simp [kwV] at hq
 ·simp [kwV] at hq
  subst hq
  exact (List.getElem?_eq_some_iff.1 hb).1
theorem LsV.keep (hv : LsV f k h v L) {h' : List (List AV)} (hk : ∀ q ∈ kwV v, h'[q]? = h[q]?) : LsV f k h' v L := by
 rcases hv with h1 | h1 | ⟨b, rfl, hb, h2⟩
 ·exact .inl h1
 ·exact .inr (.inl h1)
 ·exact .inr (.inr ⟨b, rfl, by rw [hk b (by simp [kwV])]; exact hb, h2⟩)
theorem LsV.app (hv : LsV f k h v L) (xs : List (List AV)) : LsV f k (h ++ xs) v L := hv.keep fun q hq => List.getElem?_append_left (hv.bl q hq)
theorem LsV.id (hv : LsV f k h v L) : v.idOf = none := by rcases hv with ⟨_, rfl, _⟩ | ⟨_, rfl, _⟩ | ⟨b, rfl, hb, _⟩ <;> rfl
theorem LsV.unown (hv : LsV f k h v L) : v.unown = v := by rcases hv with ⟨_, rfl, _⟩ | ⟨_, rfl, _⟩ | ⟨b, rfl, hb, _⟩ <;> rfl
theorem LsV.cells (hv : LsV f k h v L) : v.cells = some [v] := by rcases hv with ⟨_, rfl, _⟩ | ⟨_, rfl, _⟩ | ⟨b, rfl, hb, _⟩ <;> rfl
theorem LsV.frz (hv : LsV f k h v L) {i : Nat} (hi : h.length <= i) (cs : List AV) : v.frz i cs = v := by
 rcases hv with ⟨_, rfl, _⟩ | ⟨_, rfl, _⟩ | ⟨b, rfl, hb, _⟩
 ·rfl
 ·rfl
 ·have := (List.getElem?_eq_some_iff.1 hb).1
  unfold AV.frz
  exact if_neg (by omega)
theorem LsV.ltV (he : ∀ a n, ltL n (f a)) (hv : LsV f k h v L) {n : Nat} (hn : h.length <= n) : v.lt n := by
 rcases hv with ⟨_, rfl, _⟩ | ⟨_, rfl, _⟩ | ⟨b, rfl, hb, _⟩
 ·exact trivial
 ·exact ltLL_enc _ n (he · n) L
 ·have := (List.getElem?_eq_some_iff.1 hb).1
  show b < n
  omega
theorem lsV_nil (f : α -> List AV) (k : Nat) (h : List (List AV)) : LsV f k h (.sl 0 [] (some true) .exact) [] := .inl ⟨_, rfl, by simp, rfl⟩
theorem lsV_lit (f : α -> List AV) (k : Nat) (h : List (List AV)) (L : List α) : LsV f k h (litV k f L) L /\ kwV (litV k f L) = [] /\ ∀ h, killV (litV k f L) h = h := by
 cases L with
 | nil => exact ⟨.inl ⟨none, rfl, by simp, rfl⟩, rfl, fun _ => rfl⟩
 | cons x r => exact ⟨.inr (.inl ⟨none, rfl, by simp⟩), rfl, fun _ => rfl⟩
theorem lsV_bsl {f : α -> List AV} {k : Nat} {h : List (List AV)} {L : List α} {b : Nat} (hb : h[b]? = some (enc f L).flatten) (hne : L ≠ []) : LsV f k h (.bsl b 0 k L.length) L := .inr (.inr ⟨b, rfl, hb, hne⟩)
theorem ap1_run (he : Elt f k) {s : St} {d : Option Nat} {bytes : Nat} {K : St -> List Nat -> Prop} (hv : LsV f k s.heap v L) (x : α) (h1 : (L.length + 1) * bytes <= 140737488355328) (h2 : L.length + 1 <= 140737488355328)
  (hK : K (({ s with heap := killV v s.heap ++ [(enc f (L ++ [x])).flatten], wr := kwV v ++ s.wr } : St).puts d (.bsl s.heap.length 0 k (L.length + 1)) false) []) : xappendA s k bytes d v (.sl k [f x] (some false) .exact) K := by
 have hpl : ∀ c ∈ ([f x] : List (List AV)).flatten, c.idOf = none := fun c hc => he.plain x c (by simpa using hc)
 have hr : rowsOf s.heap k (.sl k [f x] (some false) .exact) = some [f x] := by show (if k = k then _ else _) = _; rw [if_pos rfl]
 have hfl := he.flat_len L
 have e : (enc f (L ++ [x])).flatten = (enc f L).flatten ++ [f x].flatten := by
  have : enc f (L ++ [x]) = enc f L ++ [f x] := by simp [enc]
  rw [this, List.flatten_append]
 rcases hv with ⟨nul, rfl, hnul, rfl⟩ | ⟨nul, rfl, hne⟩ | ⟨b, rfl, hb, hne⟩
 ·have hn2 : nul = some true \/ (nul = none /\ ([] : List (List AV)) = [] /\ Room.exact = .exact) := by
   cases nul with
   | none => exact .inr ⟨rfl, rfl, rfl⟩
   | some c => cases c with
    | true => exact .inl rfl
    | false => exact absurd rfl hnul
  exact .inr (.inl ⟨[f x], hr, by simp, hpl, .inl ⟨hn2, by simpa using h1, by simp, hK⟩⟩)
 ·have hle : (enc f L).length = L.length := by simp
  rw [e] at hK
  refine .inr (.inl ⟨[f x], hr, by simp, hpl, .inr ⟨rfl, fun e2 => hne (List.eq_nil_of_length_eq_zero (by rw [<- hle, e2]; rfl)), rfl, he.flat_plain L, ?_, ?_, ?_⟩⟩)
  ·rw [hle]; exact h1
  ·rw [hle]; exact h2
  ·rw [hle]; exact hK
 ·rw [e] at hK
  refine .inr (.inl ⟨[f x], hr, by simp, hpl, rfl, _, hb, fun e2 => ?_, by rw [hfl]; omega, he.flat_plain L, h1, h2, ?_⟩)
  ·rw [e2] at hfl
   have := List.length_pos_iff.2 hne
   have hk := he.two
   have : 0 < L.length * k := Nat.mul_pos this (by omega)
   simp at hfl; omega
  ·rw [List.drop_zero, List.take_of_length_le (by rw [hfl]; exact Nat.le_refl _)]
   exact hK
end
def refH (R : Rg) (id : Int) (h : List (List AV)) : List (List AV) := match R.find id with
 | some s => h.set s.box ({ s with refs := s.refs + 1 } : Sl).cells
 | none => h
section
variable {lo : Nat} {h : List (List AV)} {i : Nat} {R : Rg}
theorem refH_len (R : Rg) (id : Int) (h : List (List AV)) : (refH R id h).length = h.length := by unfold refH; split <;> simp
theorem refH_get {id : Int} {q : Nat} (hq : q ∉ R.touch i) : (refH R id h)[q]? = h[q]? := by
 unfold refH
 split
 ·rename_i s hs
  rw [List.getElem?_set_ne]
  intro e
  exact hq (by rw [<- e]; simp [Rg.touch]; exact .inr (.inr (.inr ⟨s, (find_mem hs).1, rfl⟩)))
 ·rfl
theorem refH_plain (id : Int) (hp : plainH h) : plainH (refH R id h) := by
 unfold refH; split
 ·exact plainH_set hp (Sl.cells_plain _) _
 ·exact hp
theorem ref_touchE (R : Rg) (id : Int) (i : Nat) : (R.ref id).touch i = R.touch i := by
 unfold Rg.ref; split
 ·exact Rg.upd_touch _ _ _ _
 ·rfl
theorem refH_app (hr : RegAt lo h i R) (id : Int) (xs : List (List AV)) : refH R id (h ++ xs) = refH R id h ++ xs := by
 unfold refH; split
 ·rename_i s hs
  exact List.set_append_left _ _ (hr.box_lt (find_mem hs).1)
 ·rfl
theorem gref_x (hr : RegAt lo h i R) {n : Nat} (ho : RgOk n R) (hn : n <= 1000) (id : Int) : Contract Tryz.prog 121 [.box i 0, .v (.int .i64 id)] h (.v (.bool (R.find id).isSome)) (refH R id h) (R.touch i) /\ RegAt lo (refH R id h) i (R.ref id) := by
 cases hs : R.find id with
 | none =>
  have e : refH R id h = h := by unfold refH; rw [hs]
  rw [e]
  refine ⟨?_, ?_⟩
  ·refine contract_of k121 mixed (by simp [c121]) fun hh hargs => ?_
   simp [c121]
   refine xcall_self (by simp) (gfind_c hr id) ?_
   simp [hs, ptrOf, hh]
  ·unfold Rg.ref; rw [hs]; exact hr
 | some s =>
  have hm := (find_mem hs).1
  have hb := hr.box_lt hm
  have hc := hr.at_ s hm
  have hrf := (ho.refs s hm).2
  have e : refH R id h = h.set s.box ({ s with refs := s.refs + 1 } : Sl).cells := by unfold refH; rw [hs]
  rw [e]
  refine ⟨?_, ?_⟩
  ·rw [Sl.cells_mk] at hc
   refine contract_of k121 mixed (by simp [c121]) fun hh hargs => ?_
   have hw : IntKind.i64.wrap ((s.refs : Int) + 1) = (s.refs : Int) + 1 := wrap64 (by omega) (by omega)
   simp [c121]
   refine xcall_self (by simp) (gfind_c hr id) ?_
   simp [hs, ptrOf, hc, hw, Sl.cells_mk, hh, Rg.touch]
   exact fun _ => .inr (.inr (.inr ⟨s, hm, rfl⟩))
  ·unfold Rg.ref; rw [hs]; exact hr.upd ho.idsN hm _
end
def stepRf (p : Rg × List (List AV)) (op : Oc) : Rg × List (List AV) := if op.kind = 1 then (p.1.ref op.id, refH p.1 op.id p.2) else p
def rfP (R : Rg) (h : List (List AV)) (ops : List Oc) : Rg × List (List AV) := ops.foldl stepRf (R, h)
def rfR (R : Rg) (ops : List Oc) : Rg := ops.foldl (fun R op => if op.kind = 1 then R.ref op.id else R) R
theorem rfP_snoc (R : Rg) (h : List (List AV)) (ops : List Oc) (op : Oc) : rfP R h (ops ++ [op]) = stepRf (rfP R h ops) op := by unfold rfP; rw [List.foldl_append]; rfl
theorem rfP_cons (R : Rg) (h : List (List AV)) (op : Oc) (ops : List Oc) : rfP R h (op :: ops) = rfP (stepRf (R, h) op).1 (stepRf (R, h) op).2 ops := rfl
theorem rfP_fst : ∀ (ops : List Oc) (R : Rg) (h : List (List AV)), (rfP R h ops).1 = rfR R ops
 | [], _, _ => rfl
 | op :: ops, R, h => by
  rw [rfP_cons, rfP_fst ops]
  show rfR (stepRf (R, h) op).1 ops = rfR (if op.kind = 1 then R.ref op.id else R) ops
  congr 1
  unfold stepRf; split <;> rfl
structure RfOk (lo : Nat) (h : List (List AV)) (i n : Nat) (R : Rg) (ops : List Oc) : Prop where
 at_ : RegAt lo (rfP R h ops).2 i (rfR R ops)
 ok : RgOk (n + ops.length) (rfR R ops)
 len : (rfP R h ops).2.length = h.length
 touch : (rfR R ops).touch i = R.touch i
 get : ∀ q, q ∉ R.touch i -> (rfP R h ops).2[q]? = h[q]?
 plain : plainH h -> plainH (rfP R h ops).2
theorem rf_ok {lo i : Nat} : ∀ (ops : List Oc) {h : List (List AV)} {n : Nat} {R : Rg}, RegAt lo h i R -> RgOk n R -> n + ops.length <= 1000 -> RfOk lo h i n R ops
 | [], h, n, R, hr, ho, hn => ⟨hr, ho, rfl, rfl, fun _ _ => rfl, fun h => h⟩
 | op :: ops, h, n, R, hr, ho, hn => by
  have hn1 : n + ops.length + 1 <= 1000 := by simpa [Nat.add_assoc] using hn
  by_cases h1 : op.kind = 1
  ·have e : stepRf (R, h) op = (R.ref op.id, refH R op.id h) := if_pos h1
   have hx := rf_ok ops (gref_x hr ho (by omega) op.id).2 (ho.ref op.id) (by omega)
   have e1 : rfP R h (op :: ops) = rfP (R.ref op.id) (refH R op.id h) ops := by rw [rfP_cons, e]
   have e2 : rfR R (op :: ops) = rfR (R.ref op.id) ops := by show rfR (if op.kind = 1 then _ else _) ops = _; rw [if_pos h1]
   refine ⟨by rw [e1, e2]; exact hx.at_, by rw [e2]; have := hx.ok; rw [show n + 1 + ops.length = n + (op :: ops).length by simp; omega] at this; exact this, by rw [e1, hx.len, refH_len], by rw [e2, hx.touch, ref_touchE], fun q hq => ?_, fun hp => by rw [e1]; exact hx.plain (refH_plain _ hp)⟩
   rw [e1, hx.get q (by rw [ref_touchE]; exact hq), refH_get hq]
  ·have e : stepRf (R, h) op = (R, h) := if_neg h1
   have hx := rf_ok ops hr (ho.mono (Nat.le_succ n)) (by omega)
   have e1 : rfP R h (op :: ops) = rfP R h ops := by rw [rfP_cons, e]
   have e2 : rfR R (op :: ops) = rfR R ops := by show rfR (if op.kind = 1 then _ else _) ops = _; rw [if_neg h1]
   refine ⟨by rw [e1, e2]; exact hx.at_, by rw [e2]; have := hx.ok; rw [show n + 1 + ops.length = n + (op :: ops).length by simp; omega] at this; exact this, by rw [e1, hx.len], by rw [e2, hx.touch], fun q hq => by rw [e1]; exact hx.get q hq, fun hp => by rw [e1]; exact hx.plain hp⟩
theorem rfP_app {lo i : Nat} {h : List (List AV)} {n : Nat} {R : Rg} (hr : RegAt lo h i R) (ho : RgOk n R) (xs : List (List AV)) (ops : List Oc) (hn : n + ops.length <= 1000) : (rfP R (h ++ xs) ops).2 = (rfP R h ops).2 ++ xs := by
 have key : ∀ (ops : List Oc) {h : List (List AV)} {n : Nat} {R : Rg}, RegAt lo h i R -> RgOk n R -> n + ops.length <= 1000 -> (rfP R (h ++ xs) ops).2 = (rfP R h ops).2 ++ xs := fun ops => by
  induction ops with
  | nil => intro h n R _ _ _; rfl
  | cons op ops ih =>
   intro h n R hr ho hn
   have hn1 : n + ops.length + 1 <= 1000 := by simpa [Nat.add_assoc] using hn
   rw [rfP_cons, rfP_cons]
   by_cases h1 : op.kind = 1
   ·have e : ∀ h, stepRf (R, h) op = (R.ref op.id, refH R op.id h) := fun h => if_pos h1
    rw [e, e]
    show (rfP (R.ref op.id) (refH R op.id (h ++ xs)) ops).2 = (rfP (R.ref op.id) (refH R op.id h) ops).2 ++ xs
    rw [refH_app hr]
    exact ih (gref_x hr ho (by omega) op.id).2 (ho.ref op.id) (by omega)
   ·have e : ∀ h, stepRf (R, h) op = (R, h) := fun h => if_neg h1
    rw [e, e]
    exact ih hr ho (by omega)
 exact key ops hr ho hn
theorem RegAt.keep0 {lo : Nat} {h h' : List (List AV)} {i : Nat} {R : Rg} (hr : RegAt lo h i R) (hk : ∀ k ∈ R.touch i, h'[k]? = h[k]?) (hlt : ltLL h'.length h') : RegAt lo h' i R :=
 ⟨(hk _ (by simp [Rg.touch])).trans hr.top, (hk _ (by simp [Rg.touch])).trans hr.recs, (hk _ (by simp [Rg.touch])).trans hr.ids, fun s hs => (hk _ (by simp [Rg.touch]; exact .inr (.inr (.inr ⟨s, hs, rfl⟩)))).trans (hr.at_ s hs), hr.low, hr.apart, hr.boxes, hlt⟩
def allOp (E : List En) : List Oc := E.flatMap En.cache
theorem allOp_next {E : List En} {j : Nat} (hj : j < E.length) : allOp (E.take (j + 1)) = allOp (E.take j) ++ E[j].cache := by
 unfold allOp; rw [List.take_succ_eq_append_getElem hj, List.flatMap_append]; simp
theorem allOp_le {E : List En} {j : Nat} (hj : j < E.length) : (allOp (E.take j)).length + E[j].cache.length <= (allOp E).length := by
 have : allOp E = allOp (E.take (j + 1)) ++ allOp (E.drop (j + 1)) := by unfold allOp; rw [<- List.flatMap_append, List.take_append_drop]
 rw [this, List.length_append, allOp_next hj, List.length_append]; omega
theorem leqH_take1 {X : List (List AV)} {x : List AV} {n : Nat} (hX : X.length = n) : ∀ r : List (List AV), leqH 0 ((X ++ x :: r).take (n + 1)) (X ++ [x]) := fun r => by
 have : (X ++ x :: r).take (n + 1) = X ++ [x] := by
  rw [<- hX, List.take_append, List.take_of_length_le (Nat.le_succ _)]
  simp
 rw [this]
 exact leqH_refl _ _
section
variable {h : List (List AV)} {lo i : Nat} {R : Rg} {j : Jb}
set_option maxHeartbeats 1000000 in
theorem jrefer_c (hr : RegAt lo h j.i R) {n : Nat} (ho : RgOk n R) (E : List En) (hE : E.length <= 1000) (hn : n + (allOp E).length <= 1000) (hi2 : j.it < h.length) :
  Contract Tryz.prog 95 [.agg (jbC j), .sl 8 (enc enC E) none .no] h (.tup []) (rfP R h (allOp E)).2 (R.touch j.i) := by
 have hi := hr.i_lt
 refine contract_of k95 mixed (by simp [c95]) fun hh hargs => ?_
 have hJ := jbC_lt (j := j) (n := h.length + 1) (by omega) (by omega)
 have ok : ∀ ops : List Oc, n + ops.length <= 1000 -> RfOk lo h j.i n R ops := fun ops hops => rf_ok ops hr ho hops
 have hwr : ∀ q ∈ R.touch j.i, q < h.length := fun q hq => by
  unfold Rg.touch at hq
  simp only [List.mem_cons] at hq
  rcases hq with rfl | rfl | rfl | hq
  ·exact hi
  ·exact (List.getElem?_eq_some_iff.1 hr.recs).1
  ·exact (List.getElem?_eq_some_iff.1 hr.ids).1
  ·obtain ⟨s, hs, rfl⟩ := List.mem_map.1 hq; exact hr.box_lt hs
 have hT : (∀ a, a ∈ R.touch j.i -> a < h.length -> a ∈ R.touch j.i) = True := eq_true fun _ h _ => h
 simp [c95]
 refine xloop_ok (D := Nat) (fun a => ⟨[(2, .box h.length 0), (8, .sl 8 (enc enC E) none .no), (9, .v (.int .i64 E.length)), (10, .v (.int .i64 a))], [], (rfP R h (allOp (E.take a))).2 ++ [jbC j], R.touch j.i⟩) (fun a => a <= E.length) (fun a => E.length - a) 0 (by simp) ?_ ?_
 ·simp [Leq, hT, hh, allOp, rfP, hJ]
 ·intro a ha
  by_cases hlt : a < E.length
  ·have hw : IntKind.i64.wrap ((a : Int) + 1) = (a : Int) + 1 := wrap64 (by omega) (by omega)
   have hle := allOp_le hlt
   have hnx := allOp_next hlt
   have hl0 := (ok (allOp (E.take a)) (by omega)).len
   simp [hlt, hl0]
   obtain ⟨C, hC⟩ : ∃ C, E[a].cache = C := ⟨_, rfl⟩
   obtain ⟨O, hO⟩ : ∃ O, allOp (E.take a) = O := ⟨_, rfl⟩
   rw [hC] at hle hnx ⊢
   rw [hO] at hle hnx hl0 ⊢
   have hlt0 := (ok O (by omega)).at_.lt
   rw [hl0] at hlt0
   have hlt1 := ltLL_mono (Nat.le_add_right h.length 1) hlt0
   refine xloop_ok (D := Nat) (fun q => ⟨[(2, .box h.length 0), (8, .sl 8 (enc enC E) none .no), (9, .v (.int .i64 E.length)), (10, .v (.int .i64 a)), (15, .sl 2 (enc ocC C) none .no), (16, .v (.int .i64 C.length)), (17, .v (.int .i64 q))], [], (rfP R h (O ++ C.take q)).2 ++ [jbC j], R.touch j.i⟩) (fun q => q <= C.length) (fun q => C.length - q) 0 (by simp) ?_ ?_
   ·simp [Leq, hT, hl0, hlt1, hJ, leqH_take1 hl0]
    done
   ·intro q hq
    by_cases hlq : q < C.length
    ·have hwq : IntKind.i64.wrap ((q : Int) + 1) = (q : Int) + 1 := wrap64 (by omega) (by omega)
     have hOq := ok (O ++ C.take q) (by simp; omega)
     have eq : C.take (q + 1) = C.take q ++ [C[q]] := List.take_succ_eq_append_getElem hlq
     have hsn := rfP_snoc R h (O ++ C.take q) C[q]
     rw [List.append_assoc, <- eq] at hsn
     have h1 := hOq.len
     have h2 := hOq.at_
     have h3 := hOq.touch
     have h4 := hOq.ok
     have h5 : (rfP R h (O ++ C.take q)).1 = rfR R (O ++ C.take q) := rfP_fst _ _ _
     have hbd : n + (O ++ C.take q).length <= 1000 := by simp; omega
     obtain ⟨c, hc⟩ : ∃ c, C[q] = c := ⟨_, rfl⟩
     rw [hc] at hsn
     generalize O ++ C.take q = ops at *
     have hsn1 : c.kind = 1 -> (rfP R h (O ++ C.take (q + 1))).2 = refH (rfR R ops) c.id (rfP R h ops).2 := fun hk => by
      rw [hsn]; unfold stepRf; rw [if_pos hk, h5]
     have hsn2 : ¬ c.kind = 1 -> (rfP R h (O ++ C.take (q + 1))).2 = (rfP R h ops).2 := fun hk => by
      rw [hsn]; unfold stepRf; rw [if_neg hk]
     clear hsn
     generalize hX : (rfP R h ops).2 = X at *
     simp [hlq, h1, hc]
     have hcl := h2.lt
     rw [h1] at hcl
     have hcl1 := ltLL_mono (Nat.le_add_right h.length 1) hcl
     by_cases hk : c.kind = 1
     ·have hk2 : (c.kind == 1) = true := by simpa using hk
      have hsn := hsn1 hk
      have hr2 := h2.app [jbC j, ocC c] (by rw [h1]; simp [jbC_lt (j := j) (n := h.length + 2) (by omega) (by omega)])
      have hg := gref_x hr2 h4 hbd c.id
      rw [refH_app h2, h3] at hg
      have hj0 : (X ++ [jbC j, ocC c])[h.length]? = some (jbC j) := by rw [<- h1, List.getElem?_append_right (Nat.le_refl _)]; simp
      have hj1 : (X ++ [jbC j, ocC c])[h.length + 1]? = some (ocC c) := by rw [<- h1, List.getElem?_append_right (by omega)]; simp
      simp [hk, hk2, hj0, hj1]
      refine xcall_self (by simp) hg.1 ?_
      simp [hwq]
      refine ⟨q + 1, by omega, by omega, ?_⟩
      have hrl := refH_len (rfR R ops) c.id X
      have hrlt := hg.2.lt
      have hrlt2 : ltLL (h.length + 1) (refH (rfR R ops) c.id X) := by
       have := (gref_x h2 h4 hbd c.id).2.lt
       rw [hrl, h1] at this
       exact ltLL_mono (Nat.le_add_right _ _) this
      rw [hsn]
      simp [Leq, hT, hrl, h1, hrlt2, hJ, leqH_take1 (hrl.trans h1)]
      exact fun x hx hx2 => by
       rcases hx with h | h | h
       ·exact h
       ·omega
       ·exact h
     ·have hsn := hsn2 hk
      have hk2 : (c.kind == 1) = false := by simpa using hk
      simp [hk, hk2, hwq]
      refine ⟨q + 1, by omega, by omega, ?_⟩
      rw [hsn]
      simp [Leq, hT, h1, hcl1, hJ, leqH_take1 h1]
      done
    ·have : q = C.length := by omega
     subst this
     have hOq := ok (O ++ C) (by simp; omega)
     have h1 := hOq.len
     have hcl := hOq.at_.lt
     rw [h1] at hcl
     have hcl1 := ltLL_mono (Nat.le_add_right h.length 1) hcl
     simp [hw]
     refine ⟨a + 1, by omega, by omega, ?_⟩
     rw [hnx]
     simp [Leq, hT, h1, hcl1, hJ, leqH_take1 h1]
     done
  ·have : a = E.length := by omega
   subst this
   have hl0 := (ok (allOp E) hn).len
   have ha0 := (ok (allOp E) hn).at_.lt
   rw [hl0] at ha0
   simp [hl0, ha0, hh, hT]
theorem frzOk_snocE (E : List En) (e : En) : frzOk (enc enC (E ++ [e])).flatten := by cases E <;> exact trivial
theorem frzOk_snocF (E : List Fm) (e : Fm) : frzOk (enc fmC (E ++ [e])).flatten := by cases E <;> exact trivial
set_option maxHeartbeats 1000000 in
theorem jtold_c (hr : RegAt lo h j.i R) {n : Nat} (ho : RgOk n R) (hi2 : j.it < h.length) {fv ev : AV} {F : List Fm} {E : List En} (hf : LsV fmC 10 h fv F) (he : LsV enC 8 h ev E) (hfe : ∀ q ∈ kwV fv, q ∉ kwV ev) (hfr : ∀ q ∈ kwV fv, q ∉ R.touch j.i) (her : ∀ q ∈ kwV ev, q ∉ R.touch j.i)
  (hF : F.length <= 100) (hE : E.length <= 100) (name : List UInt8) (e : En) (hn : n + (allOp (E ++ [e])).length <= 1000) :
  Contract Tryz.prog 61 [.agg (jbC j), .v (.string (strB name)), fv, ev, .agg (enC e)] h (.tup [.sl 10 (enc fmC (F ++ [named j.m name])) none .no, .sl 8 (enc enC (E ++ [e])) none .no]) (killV fv (rfP R (killV ev h) (allOp (E ++ [e]))).2) (kwV fv ++ (kwV ev ++ R.touch j.i)) := by
 have hi := hr.i_lt
 have f1 := hf.id
 have f2 := hf.unown
 have f3 := hf.cells
 have e1 := he.id
 have e2 := he.unown
 have e3 := he.cells
 refine contract_cut (XCode.cuts [false, false, false, true, false, true] c61.code) k61 rfl mixed (by simp [c61]) fun hh hargs => ?_
 have hJ := jbC_lt (j := j) (n := h.length + 3) (by omega) (by omega)
 have hnm : ∀ m : Fm, (fmC m).set 2 (.v (.string (strB name))) = fmC (named m name) := fun _ => rfl
 have hkl := killV_len ev h
 have hr1 : RegAt lo (killV ev h) j.i R := hr.keep0 (fun q hq => killV_get fun hq2 => her q hq2 hq) (by rw [hkl]; exact killV_lt hr.lt)
 simp at hargs
 obtain ⟨E', hE'⟩ : ∃ E', E ++ [e] = E' := ⟨_, rfl⟩
 obtain ⟨F', hF'⟩ : ∃ F', F ++ [named j.m name] = F' := ⟨_, rfl⟩
 have hEl : E'.length = E.length + 1 := by rw [<- hE']; simp
 have hFl : F'.length = F.length + 1 := by rw [<- hF']; simp
 have zE := frz_all (c := enC) (k := 8) (fun _ => rfl) E' (h.length + 3) (E.length + 1) (by rw [hEl])
 have zF := frz_all (c := fmC) (k := 10) (fun _ => rfl) F' (h.length + 3) (F.length + 1) (by rw [hFl])
 have kE : frzOk (enc enC E').flatten := by rw [<- hE']; exact frzOk_snocE E e
 have kF : frzOk (enc fmC F').flatten := by rw [<- hF']; exact frzOk_snocF F _
 have lE := fun m => enE.flat_lt m E'
 have lF := fun m => fmE.flat_lt m F'
 rw [hE'] at hn ⊢
 rw [hF']
 simp [c61, f1, f2, f3, e1, e2, e3, hnm, -enc_append]
 have l3 := fun x => killV_lt (v := x) (ltLL_mono (Nat.le_add_right h.length 3) hh)
 refine xseq_frz (h.length + 3) (enc enC E').flatten ⟨[(2, fv), (3, .sl 8 (enc enC E') none .no), (5, .box h.length 0), (12, .box (h.length + 2) 0)], [], killV ev h ++ [jbC j, enC e, fmC (named j.m name)], kwV ev⟩ (by show h.length <= _; omega) kE ?_ ?_
 ·simp
  refine ap1_run (L := E) (bytes := 144) enE (he.app [jbC j, enC e, fmC (named j.m name)]) e (by omega) (by omega) ?_
  rw [hE', killV_app he.bl]
  generalize hX : killV ev h = X at *
  have l4 := ltLL_mono (Nat.le_add_right h.length 3) (show ltLL h.length X from by rw [<- hX]; exact killV_lt hh)
  simp [e1, e2, f1, f2, f3, hkl]
  have t3 : (X ++ [jbC j, enC e, fmC (named j.m name), []]).take (h.length + 3) = X ++ [jbC j, enC e, fmC (named j.m name)] := by
   rw [<- hkl, List.take_append, List.take_of_length_le (by omega), show X.length + 3 - X.length = 3 by omega]; rfl
  simp [Leq, hkl, zE, lE, l4, hJ, f1, t3, hf.frz (show h.length <= h.length + 3 by omega), hf.ltV fmE.lt (show h.length <= h.length + 3 by omega), leqH_refl]
  exact fun q hq _ => by
   rcases hq with hq | hq
   ·exact hq
   ·omega
 ·generalize hX : killV ev h = X at *
  have g0 : ∀ a b c : List AV, (X ++ [a, b, c])[h.length]? = some a := fun a b c => by rw [<- hkl, List.getElem?_append_right (Nat.le_refl _)]; simp
  have g2 : ∀ a b c : List AV, (X ++ [a, b, c])[h.length + 2]? = some c := fun a b c => by rw [<- hkl, List.getElem?_append_right (by omega)]; simp
  have hr3 := hr1.app [jbC j, enC e, fmC (named j.m name)] (by rw [hkl]; simp [hJ])
  have hrf := jrefer_c hr3 ho E' (by omega) hn (by simp; omega)
  rw [rfP_app hr1 ho _ _ hn] at hrf
  have hok := rf_ok (allOp E') hr1 ho hn
  have hYl := hok.len
  have hYt := hok.at_.lt
  have hYg := hok.get
  simp [g0]
  refine xcall_self (by simp) hrf ?_
  generalize hY : (rfP R X (allOp E')).2 = Y at *
  have k0 : ∀ a b c : List AV, (Y ++ [a, b, c])[h.length + 2]? = some c := fun a b c => by rw [<- hkl, <- hYl, List.getElem?_append_right (by omega)]; simp
  have hfY : LsV fmC 10 Y fv F := hf.keep fun q hq => by rw [hYg q (hfr q hq), <- hX]; exact killV_get (hfe q hq)
  simp [f1, f2, f3, k0]
  refine xseq_frz (h.length + 3) (enc fmC F').flatten ⟨[(10, .sl 10 (enc fmC F') none .no), (11, .sl 8 (enc enC E') none .no)], [], killV fv Y, kwV fv ++ (R.touch j.i ++ kwV ev)⟩ (by show h.length <= _; omega) kF ?_ ?_
  ·simp [f1, f2, f3, k0]
   refine ap1_run (L := F) (bytes := 160) fmE (hfY.app [jbC j, enC e, fmC (named j.m name)]) (named j.m name) (by omega) (by omega) ?_
   rw [hF', killV_app hfY.bl]
   have hZl : (killV fv Y).length = h.length := by rw [killV_len, hYl, hkl]
   have l5 : ltLL h.length (killV fv Y) := killV_lt (by rw [hYl, hkl] at hYt; exact hYt)
   generalize killV fv Y = Z at *
   simp [hZl, hYl, hkl]
   simp [Leq, hZl, zF, lF, l5]
   exact fun _ hq _ => hq
  ·have hZl : (killV fv Y).length = h.length := by rw [killV_len, hYl, hkl]
   have l5 : ltLL h.length (killV fv Y) := killV_lt (by rw [hYl, hkl] at hYt; exact hYt)
   have t0 : (killV fv Y).take h.length = killV fv Y := List.take_of_length_le (by omega)
   simp [hh, hZl, l5, t0, leqH_refl]
   exact fun q hq _ => by
    rcases hq with hq | hq | hq
    ·exact .inl hq
    ·exact .inr (.inr hq)
    ·exact .inr (.inl hq)
end
structure RdyV (h : List (List AV)) (fv ev : AV) (xs : List (List AV)) (F : List Fm) (E : List En) : Prop where
 f : LsV fmC 10 (h ++ xs) fv F
 e : LsV enC 8 (h ++ xs) ev E
 kf : ∀ q ∈ kwV fv, h.length <= q /\ q ∉ kwV ev
 ke : ∀ q ∈ kwV ev, h.length <= q
 lt : ltLL (h.length + xs.length) xs
 plain : ∀ x ∈ xs, ∀ c ∈ x, c.idOf = none
set_option maxHeartbeats 2000000 in
theorem jreadyV_c (spec : List Int) (hl : spec.length <= 1000000) (most id : Int) (s : Sm) (hs : s.oids.length <= 1000000) (h : List (List AV)) :
  ∃ fv ev xs, Contract Tryz.prog 66 [.sl 1 (enc intC spec) none .no, .v (.int .i64 most), .v (.int .i64 id), .agg (smC s)] h (.tup [fv, ev]) (h ++ xs) [] /\ RdyV h fv ev xs (readyF spec most id s) (readyE spec most id) := by
 by_cases hm : id ∈ spec
 ·have e1 : readyF spec most id s = [] := by unfold readyF; rw [if_pos (by simpa using hm)]
  have e2 : readyE spec most id = [] := by unfold readyE; rw [if_pos (by simpa using hm)]
  rw [e1, e2]
  refine ⟨_, _, [], ?_, lsV_nil _ _ _, lsV_nil _ _ _, fun q hq => by simp [kwV] at hq, fun q hq => by simp [kwV] at hq, by simp, by simp⟩
  rw [List.append_nil]
  refine contract_of k66 mixed (by simp [c66]) fun hh hargs => ?_
  simp [c66]
  refine xcall_self (by simp) (jhas_c hl id) ?_
  simp [hm, hh, leqH_take]
  done
 have e1 : readyF spec most id s = roomF spec most ++ [parseF (serverL id) s] := by unfold readyF; rw [if_neg (by simpa using hm)]
 have e2 : readyE spec most id = roomE spec most ++ [hidE 2 ⟨1, id⟩] := by unfold readyE; rw [if_neg (by simpa using hm)]
 have hrf := room_fit spec most
 rw [e1, e2]
 have hroom := jroom_c spec hl most (h ++ [smC s])
 generalize roomF spec most = F0 at *
 generalize roomE spec most = E0 at *
 obtain ⟨F, hF⟩ : ∃ F, F0 ++ [parseF (serverL id) s] = F := ⟨_, rfl⟩
 obtain ⟨E, hE⟩ : ∃ E, E0 ++ [hidE 2 ⟨1, id⟩] = E := ⟨_, rfl⟩
 rw [hF, hE]
 have hFl : F.length = F0.length + 1 := by rw [<- hF]; simp
 have hEl : E.length = E0.length + 1 := by rw [<- hE]; simp
 have hF0 : F0.length <= 1 := hrf.2.2.1
 have hE0 : E0.length <= 1 := by rw [hrf.2.2.2]; exact hF0
 have lF0 := fun x => lsV_lit fmC 10 x F0
 have lE0 := fun x => lsV_lit enC 8 x E0
 have f1 := (lF0 h).1.id
 have f2 := (lF0 h).1.unown
 have f3 := (lF0 h).1.cells
 have e1 := (lE0 h).1.id
 have e2 := (lE0 h).1.unown
 have e3 := (lE0 h).1.cells
 have f4 := fun m => (lF0 []).1.ltV fmE.lt (Nat.zero_le m)
 have e4 := fun m => (lE0 []).1.ltV enE.lt (Nat.zero_le m)
 generalize litV 10 fmC F0 = fv at *
 generalize litV 8 enC E0 = ev at *
 have lF := fun m => fmE.flat_lt m F
 have lE := fun m => enE.flat_lt m E
 have hen : enC (hidE 2 ⟨1, id⟩) = [.v (.int .i64 2), .v (.bool true), .v (.string (strB [])), .v (.string (strB [])), .sl 3 [] none .no, .sl 3 [] none .no, .sl 2 [ocC ⟨1, id⟩] none .no, .sl 1 [] none .no] := rfl
 refine ⟨.bsl (h.length + 2) 0 10 F.length, .bsl (h.length + 3) 0 8 E.length, [smC s, enC (hidE 2 ⟨1, id⟩), (enc fmC F).flatten, (enc enC E).flatten], ?_, lsV_bsl (by simp) (fun e => by rw [e] at hFl; simp at hFl), lsV_bsl (by simp) (fun e => by rw [e] at hEl; simp at hEl), fun q hq => ?_, fun q hq => ?_, by simp [lF, lE], fun x hx => ?_⟩
 ·refine contract_cut (XCode.cuts [false, false, false, true] c66.code) k66 rfl mixed (by simp [c66]) fun hh hargs => ?_
  have hh2 := ltLL_mono (Nat.le_add_right h.length 2) hh
  simp [c66]
  refine xcall_self (by simp) (jhas_c hl id) ?_
  simp [hm]
  refine xcall_self (by simp) hroom ?_
  simp [f1, f2, f3, e1, e2, e3]
  refine xseq_cut ⟨[(2, .v (.int .i64 id)), (7, .box h.length 0), (10, fv), (11, ev), (12, .box (h.length + 1) 0)], [], h ++ [smC s, enC (hidE 2 ⟨1, id⟩)], []⟩ ?_ ?_
  ·simp
   refine xcall_of (hidden_c 2 [⟨1, id⟩] _) (by simp [ocC]) (by simp) ?_
   simp [f1, f2, f3, e1, e2, e3, Leq, hh2, f4, e4, leqH_refl, hidE]
   done
  simp [f1, f2, f3, e1, e2, e3]
  refine ⟨?_, ?_⟩
  ·refine xcall_self (by simp) (nserver_any id _) ?_
   simp [f1, f2, f3, e1, e2, e3]
   refine ⟨?_, ?_⟩
   ·refine xcall_self (by simp) (jparse_c _ s hs _) ?_
    simp [f1, f2, f3, e1, e2, e3]
    refine ⟨⟨?_, ?_⟩, ?_⟩
    ·refine ap1_run (L := F0) (bytes := 160) fmE (lF0 _).1 (parseF (serverL id) s) (by omega) (by omega) ?_
     rw [(lF0 h).2.2, (lF0 h).2.1, hF]
     simp [f1, f2, f3, e1, e2, e3]
     refine ap1_run (L := E0) (bytes := 144) enE (lE0 _).1 (hidE 2 ⟨1, id⟩) (by omega) (by omega) ?_
     rw [(lE0 h).2.2, (lE0 h).2.1, hE]
     simp [hh, f1, f2, f3, e1, e2, e3, lF, lE, leqH_refl, hEl, hFl]
     done
    ·refine ap1_run (L := F0) (bytes := 160) fmE (lF0 _).1 (parseF (serverL id) s) (by omega) (by omega) ?_
     rw [(lF0 h).2.2, (lF0 h).2.1, hF]
     simp [f1, f2, f3, e1, e2, e3]
     refine ap1_run (L := E0) (bytes := 144) enE (lE0 _).1 (hidE 2 ⟨1, id⟩) (by omega) (by omega) ?_
     rw [(lE0 h).2.2, (lE0 h).2.1, hE]
     simp [hh, f1, f2, f3, e1, e2, e3, lF, lE, leqH_refl, hEl, hFl]
     done
    ·refine ap1_run (L := F0) (bytes := 160) fmE (lF0 _).1 (parseF (serverL id) s) (by omega) (by omega) ?_
     rw [(lF0 h).2.2, (lF0 h).2.1, hF]
     simp [f1, f2, f3, e1, e2, e3]
     refine ap1_run (L := E0) (bytes := 144) enE (lE0 _).1 (hidE 2 ⟨1, id⟩) (by omega) (by omega) ?_
     rw [(lE0 h).2.2, (lE0 h).2.1, hE]
     simp [hh, f1, f2, f3, e1, e2, e3, lF, lE, leqH_refl, hEl, hFl]
     done
   ·refine xcall_self (by simp) (jparse_c _ s hs _) ?_
    simp [f1, f2, f3, e1, e2, e3]
    refine ap1_run (L := F0) (bytes := 160) fmE (lF0 _).1 (parseF (serverL id) s) (by omega) (by omega) ?_
    rw [(lF0 h).2.2, (lF0 h).2.1, hF]
    simp [f1, f2, f3, e1, e2, e3]
    refine ap1_run (L := E0) (bytes := 144) enE (lE0 _).1 (hidE 2 ⟨1, id⟩) (by omega) (by omega) ?_
    rw [(lE0 h).2.2, (lE0 h).2.1, hE]
    simp [hh, f1, f2, f3, e1, e2, e3, lF, lE, leqH_refl, hEl, hFl]
    done
  ·refine xcall_self (by simp) (nserver_any id _) ?_
   simp [f1, f2, f3, e1, e2, e3]
   refine xcall_self (by simp) (jparse_c _ s hs _) ?_
   simp [f1, f2, f3, e1, e2, e3]
   refine ap1_run (L := F0) (bytes := 160) fmE (lF0 _).1 (parseF (serverL id) s) (by omega) (by omega) ?_
   rw [(lF0 h).2.2, (lF0 h).2.1, hF]
   simp [f1, f2, f3, e1, e2, e3]
   refine ap1_run (L := E0) (bytes := 144) enE (lE0 _).1 (hidE 2 ⟨1, id⟩) (by omega) (by omega) ?_
   rw [(lE0 h).2.2, (lE0 h).2.1, hE]
   simp [hh, f1, f2, f3, e1, e2, e3, lF, lE, leqH_refl, hEl, hFl]
   done
 ·simp [kwV] at hq ⊢; omega
 ·simp [kwV] at hq ⊢; omega
 ·simp at hx
  rcases hx with rfl | rfl | rfl | rfl
  ·intro c hc; simp [smC_mk] at hc; rcases hc with rfl | rfl <;> rfl
  ·exact enC_plain1 _
  ·exact fmE.flat_plain F
  ·exact enE.flat_plain E
end Go.Proofs.YtdfgljojemmlcaaGreat.Ax
