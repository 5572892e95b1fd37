import Derived.Test.YtdfgljojemmlcaaGreatQAxTc
set_option linter.unusedSimpArgs false
set_option linter.unusedVariables false
open List renaming getElem?_eq_some_iff -> Q0, flatten_cons -> Q1, mem_map -> Q2, getElem?_append_left -> Q3, eq_nil_of_length_eq_zero -> Q4, getElem?_set_ne -> Q5, getElem_of_mem -> Q7, length_append -> Q8, getElem_mem -> Q9, nil_append -> Rb, length_set -> Rd, pairwise_append -> Re, mem_singleton -> Rf, pairwise_iff_getElem -> Ri, mem_of_find?_eq_some -> Rj, take_length -> Rk, getElem?_eq_getElem -> Rl, append_nil -> Rm, map_append -> Rn, length -> Ro, take_of_length_le -> Rp, getElem?_set_self -> Rq, lt_irrefl -> Rr, take_append_drop -> Rt, eraseP_sublist -> Ru, find?_eq_none -> Rv, length_cons -> Rx, mem_flatten -> Ry, find?_some -> Rz, mem_append -> RA, drop_zero -> RD
open Nat renaming le_refl -> Q6, add_mul -> Ra, le_add_right -> Rc, zero_le -> Rw, zero_add -> RE
open Option renaming isSome_some -> Rh
namespace Go.Proofs.YtdfgljojemmlcaaGreat.Ax
open Go.RowKit Go By
set_option maxRecDepth 10000
structure Elt {α : Type} (f : α -> List AV) (k : Nat) : Prop where
 two : 2 <= k
 len : ∀ a, (f a).length = k
 plain : ∀ a, ∀ c ∈ f a, c.idOf = none
 lt : ∀ a n, dP n (f a)
section
variable {α : Type} {f : α -> List AV} {k : Nat}
theorem Elt.flat_len (he : Elt f k) (l : List α) : (ai f l).flatten.length = l.length * k := by
 induction l with
 | nil => simp
 | cons x l ih =>
  have e : ai f (x :: l) = f x :: ai f l := rfl
  rw [e, Q1, Q8, ih, he.len, Rx, Ra]; omega
theorem Elt.sum (he : Elt f k) (l : List α) : (List.map Ro (ai f l)).sum = l.length * k := by rw [<- List.length_flatten]; exact he.flat_len l
theorem Elt.at_ (he : Elt f k) : ∀ {l : List α} {j q : Nat} (hj : j < l.length) (hq : q < k), (ai f l).flatten[j * k + q]? = (f l[j])[q]?
 | x :: l, 0, q, _, hq => by
  have e : ai f (x :: l) = f x :: ai f l := rfl
  rw [e, Q1, Q3 (by rw [he.len]; omega)]
  simp
 | x :: l, j + 1, q, hj, hq => by
  have e : ai f (x :: l) = f x :: ai f l := rfl
  have e1 : (j + 1) * k + q = k + (j * k + q) := by rw [Ra]; omega
  rw [e, e1, Q1, List.getElem?_append_right (by rw [he.len]; omega), he.len, show k + (j * k + q) - k = j * k + q by omega, he.at_ (by simpa using hj) hq]
  simp
theorem Elt.set (he : Elt f k) : ∀ {l : List α} {j q : Nat} (hj : j < l.length) (hq : q < k) (c : AV) (a : α), f a = (f l[j]).set q c -> (ai f l).flatten.set (j * k + q) c = (ai f (l.set j a)).flatten
 | x :: l, 0, q, _, hq, c, a, ha => by
  have e : ai f (x :: l) = f x :: ai f l := rfl
  rw [e, Q1, List.set_append_left _ _ (by rw [he.len]; omega)]
  have e2 : ai f ((x :: l).set 0 a) = f a :: ai f l := rfl
  rw [e2, Q1, ha]
  simp
 | x :: l, j + 1, q, hj, hq, c, a, ha => by
  have e : ai f (x :: l) = f x :: ai f l := rfl
  have e1 : (j + 1) * k + q = k + (j * k + q) := by rw [Ra]; omega
  rw [e, e1, Q1, List.set_append_right _ _ (by rw [he.len]; omega), he.len, show k + (j * k + q) - k = j * k + q by omega, he.set (by simpa using hj) hq c a (by simpa using ha)]
  rfl
theorem Elt.take (he : Elt f k) : ∀ (l : List α) (j : Nat), (ai f l).flatten.take (j * k) = (ai f (l.take j)).flatten
 | [], j => by simp [ai]
 | x :: l, 0 => by simp [ai]
 | x :: l, j + 1 => by
  have e : ai f (x :: l) = f x :: ai f l := rfl
  have e2 : ai f (x :: l.take j) = f x :: ai f (l.take j) := rfl
  have e3 : (j + 1) * k = k + j * k := by rw [Ra]; omega
  rw [List.take_succ_cons, e, e2, e3, Q1, Q1, List.take_append, he.len, show k + j * k - k = j * k by omega, he.take l j, Rp (by rw [he.len]; omega)]
theorem Elt.drop (he : Elt f k) : ∀ (l : List α) (j : Nat), (ai f l).flatten.drop (j * k) = (ai f (l.drop j)).flatten
 | [], j => by simp [ai]
 | x :: l, 0 => by simp [ai]
 | x :: l, j + 1 => by
  have e : ai f (x :: l) = f x :: ai f l := rfl
  have e3 : (j + 1) * k = k + j * k := by rw [Ra]; omega
  rw [List.drop_succ_cons, e, e3, Q1, List.drop_append, he.len, show k + j * k - k = j * k by omega, he.drop l j, List.drop_of_length_le (by rw [he.len]; omega), Rb]
theorem Elt.flat_plain (he : Elt f k) (l : List α) : ∀ c ∈ (ai f l).flatten, c.idOf = none := fun c hc => by
 obtain ⟨e, he2, hc⟩ := Ry.1 hc
 obtain ⟨s, _, rfl⟩ := Q2.1 he2
 exact he.plain s c hc
theorem Elt.flat_lt (he : Elt f k) (n : Nat) (l : List α) : dP n (ai f l).flatten := em fun j c hj => by
 obtain ⟨e, he2, hc⟩ := Ry.1 (List.mem_of_getElem? hj)
 obtain ⟨s, _, rfl⟩ := Q2.1 he2
 obtain ⟨q, hq⟩ := List.getElem?_of_mem hc
 exact dE (he.lt s n) q c hq
def fH (k b : Nat) : List α -> AV
 | [] => .sl 0 [] (some true) .exact
 | x :: l => .bsl b 0 k (x :: l).length
theorem eO (k b : Nat) {l : List α} (h : l ≠ []) : fH k b l = .bsl b 0 k l.length := by cases l with | nil => exact absurd rfl h | cons _ _ => rfl
@[simp] theorem Gr (k b : Nat) (l : List α) : (fH k b l).cells = some [fH k b l] := by cases l <;> rfl
@[simp] theorem Hw (k b : Nat) (l : List α) : (fH k b l).unown = fH k b l := by cases l <;> rfl
@[simp] theorem Dd (k b : Nat) (l : List α) : (fH k b l).idOf = none := by cases l <;> rfl
theorem CU {k b n : Nat} {l : List α} (h : l ≠ [] -> b < n) : (fH k b l).lt n := by
 cases l with
 | nil => exact trivial
 | cons x l => exact h (by simp)
def fu (f : α -> List AV) (h : List (List AV)) (k : Nat) (x : AV) (X : List α) : Prop :=
 (X ≠ [] /\ rowsOf h k x = some (ai f X)) \/ (X = [] /\ match x with | .sl _ es _ _ => es = [] | .bsl _ _ _ m => m = 0 | _ => False)
theorem ou (he : Elt f k) {H : List (List AV)} {b : Nat} {l : List α} (hb : H[b]? = some (ai f l).flatten) {lo hi : Nat} (h1 : lo <= hi) (h2 : hi <= l.length) : rowsOf H k (.bsl b (lo * k) k (hi - lo)) = some (ai f ((l.take hi).drop lo)) := by
 show (if k = k then (H[b]?).bind fun cs => if lo * k + (hi - lo) * k <= cs.length then some (cB k (hi - lo) ((cs.drop (lo * k)).take ((hi - lo) * k))) else none else none) = _
 rw [if_pos rfl, hb]
 have hle : lo * k + (hi - lo) * k <= l.length * k := by
  rw [<- Ra]; exact Nat.mul_le_mul_right k (by omega)
 show (if lo * k + (hi - lo) * k <= (ai f l).flatten.length then some (cB k (hi - lo) (((ai f l).flatten.drop (lo * k)).take ((hi - lo) * k))) else none) = _
 rw [if_pos (by rw [he.flat_len]; exact hle), he.drop, he.take]
 have e : (l.drop lo).take (hi - lo) = (l.take hi).drop lo := by rw [List.drop_take]
 have hl : ((l.take hi).drop lo).length = hi - lo := by simp; omega
 rw [e]
 have := lk he.len ((l.take hi).drop lo)
 rw [hl] at this
 rw [this]
theorem Gl (he : Elt f k) {H : List (List AV)} {b : Nat} {l : List α} (hb : H[b]? = some (ai f l).flatten) {lo hi : Nat} (h1 : lo <= hi) (h2 : hi <= l.length) {c : Prop} [Decidable c] (hc : c ↔ lo = hi) {off n : Nat} (ho : off = lo * k) (hn : n = hi - lo) {nul : Option Bool} {room : Room} :
  fu f H k (if c then .sl k [] nul room else .bsl b off k n) ((l.take hi).drop lo) := by
 subst ho hn
 have hl : ((l.take hi).drop lo).length = hi - lo := by simp; omega
 by_cases e : lo = hi
 ·rw [if_pos (hc.2 e)]
  exact .inr ⟨Q4 (by omega), rfl⟩
 ·rw [if_neg (fun h => e (hc.1 h))]
  exact .inl ⟨fun h => by rw [h] at hl; simp at hl; omega, ou he hb h1 h2⟩
theorem iM (he : Elt f k) {H : List (List AV)} {b : Nat} {l : List α} (hb : H[b]? = some (ai f l).flatten) {lo hi : Nat} (h1 : lo <= hi) (h2 : hi <= l.length) {off n : Nat} (ho : off = lo * k) (hn : n = hi - lo) :
  fu f H k (.bsl b off k n) ((l.take hi).drop lo) := by
 subst ho hn
 have hl : ((l.take hi).drop lo).length = hi - lo := by simp; omega
 by_cases e : lo = hi
 ·exact .inr ⟨Q4 (by omega), by show hi - lo = 0; omega⟩
 ·exact .inl ⟨fun h => by rw [h] at hl; simp at hl; omega, ou he hb h1 h2⟩
theorem dX {H : List (List AV)} {X : List α} {es : List (List AV)} {nul : Option Bool} {room : Room} (h : es = ai f X) : fu f H k (.sl k es nul room) X := by
 subst h
 cases X with
 | nil => exact .inr ⟨rfl, rfl⟩
 | cons x X => exact .inl ⟨by simp, by show (if k = k then _ else _) = _; rw [if_pos rfl]⟩
theorem va (he : Elt f k) {H : List (List AV)} {b : Nat} {l : List α} (hb : l ≠ [] -> H[b]? = some (ai f l).flatten) : fu f H k (fH k b l) l := by
 cases l with
 | nil => exact .inr ⟨rfl, rfl⟩
 | cons x l =>
  have := ou he (hb (by simp)) (lo := 0) (hi := (x :: l).length) (Rw _) (Q6 _)
  rw [Nat.zero_mul, Nat.sub_zero, Rk, RD] at this
  exact .inl ⟨by simp, this⟩
def w5 (f : α -> List AV) (h : List (List AV)) (b : Nat) (L X : List α) : List (List AV) := if X = [] then h else if L = [] then h ++ [(ai f X).flatten] else h.set b [] ++ [(ai f (L ++ X)).flatten]
def qT (h : List (List AV)) (b : Nat) (X : List α) : Nat := if X = [] then b else h.length
def Au (b : Nat) (L X : List α) (wr : List Nat) : List Nat := if X = [] then wr else if L = [] then wr else b :: wr
theorem cw (he : Elt f k) {s : St} {b bytes : Nat} {d : Option Nat} {L X : List α} {x : AV} {K : St -> List Nat -> Prop} (hb : L ≠ [] -> s.heap[b]? = some (ai f L).flatten) (hx : fu f s.heap k x X) (h1 : (L.length + X.length) * bytes <= 140737488355328) (h2 : L.length + X.length <= 140737488355328)
  (hK : K (({ s with heap := w5 f s.heap b L X, wr := Au b L X s.wr } : St).puts d (fH k (qT s.heap b X) (L ++ X)) false) []) : cI s k bytes d (fH k b L) x K := by
 have ht := he.two
 rcases hx with ⟨hX, hr⟩ | ⟨hX, hr⟩
 ·unfold w5 Au qT at hK
  rw [if_neg hX, if_neg hX, if_neg hX, eO _ _ (by simp [hX])] at hK
  have hne : ai f X ≠ [] := fun e => hX (Q4 (by have := congrArg Ro e; simpa using this))
  have hel : (ai f X).length = X.length := by simp
  cases L with
  | nil =>
   rw [if_pos rfl, if_pos rfl] at hK
   refine .inr (.inl ⟨_, hr, hne, he.flat_plain X, ?_⟩)
   show (_ /\ (ai f X).length * bytes <= _ /\ (ai f X).length <= _ /\ _) \/ _
   rw [hel]
   simp only [List.length_nil, RE, Rb] at h1 h2 hK
   exact .inl ⟨.inl rfl, h1, h2, hK⟩
  | cons y L =>
   rw [if_neg (by simp), if_neg (by simp)] at hK
   refine .inr (.inl ⟨_, hr, hne, he.flat_plain X, ?_⟩)
   have hfl := he.flat_len (y :: L)
   show k = k /\ _
   refine ⟨rfl, _, hb (by simp), fun e => ?_, by rw [hfl, RE]; exact Q6 _, he.flat_plain _, by rw [hel]; exact h1, by rw [hel]; exact h2, ?_⟩
   ·rw [e] at hfl; simp [Ra] at hfl; omega
   ·rw [hel, RD, Rp (by rw [hfl]; exact Q6 _)]
    have e : ai f (y :: L ++ X) = ai f (y :: L) ++ ai f X := by simp [ai]
    rw [e, List.flatten_append, Q8] at hK
    exact hK
 ·subst hX
  unfold w5 Au qT at hK
  rw [if_pos rfl, if_pos rfl, if_pos rfl, Rm] at hK
  cases L with
  | nil => exact .inr (.inr ⟨hr, .inl ⟨ht, rfl, hK⟩⟩)
  | cons y L => exact .inr (.inr ⟨hr, ht, hK⟩)
structure OwnL (f : α -> List AV) (k : Nat) (h0 h : List (List AV)) (b : Nat) (L : List α) : Prop where
 len : h0.length <= h.length
 ext : ∀ q < h0.length, h[q]? = h0[q]?
 lt : aw h.length h
 plain : aQ h0 -> aQ h
 own : L ≠ [] -> h0.length <= b /\ h[b]? = some (ai f L).flatten
theorem OwnL.nil {h : List (List AV)} (hh : aw h.length h) (b : Nat) : OwnL f k h h b ([] : List α) := ⟨Q6 _, fun _ _ => rfl, hh, fun h => h, fun h => absurd rfl h⟩
theorem OwnL.ap (he : Elt f k) {h0 h : List (List AV)} {b : Nat} {L : List α} (hF : OwnL f k h0 h b L) (X : List α) : OwnL f k h0 (w5 f h b L X) (qT h b X) (L ++ X) := by
 unfold w5 qT
 by_cases hX : X = []
 ·subst hX
  rw [if_pos rfl, if_pos rfl, Rm]; exact hF
 ·rw [if_neg hX, if_neg hX]
  by_cases hL : L = []
  ·subst hL
   rw [if_pos rfl]
   refine ⟨by have := hF.len; simp; omega, fun q hq => ?_, ?_, fun hp => aA (hF.plain hp) ?_, fun _ => ⟨hF.len, by simp⟩⟩
   ·rw [Q3 (by have := hF.len; omega)]; exact hF.ext q hq
   ·rw [Q8]
    exact bF.2 ⟨al (Rc _ _) hF.lt, by simp; exact he.flat_lt _ _⟩
   ·intro x hx; rw [Rf.1 hx]; exact he.flat_plain X
  ·rw [if_neg hL]
   obtain ⟨hb1, hb2⟩ := hF.own hL
   refine ⟨by have := hF.len; simp; omega, fun q hq => ?_, ?_, fun hp => aA (aP (hF.plain hp) (fun c hc => by cases hc) _) ?_, fun _ => ⟨hF.len, by simp⟩⟩
   ·rw [Q3 (by have := hF.len; simp; omega), Q5 (by omega)]; exact hF.ext q hq
   ·rw [Q8, Rd]
    exact bF.2 ⟨aN (al (Rc _ _) hF.lt) (by simp), by simp; simpa using he.flat_lt _ (L ++ X)⟩
   ·intro x hx; rw [Rf.1 hx]; exact he.flat_plain _
@[simp] theorem LK (b : Nat) (X : List α) (wr : List Nat) : Au b [] X wr = wr := by unfold Au; split <;> rfl
theorem sH {b : Nat} {L X : List α} {wr : List Nat} {q : Nat} (h : q ∈ Au b L X wr) : q ∈ wr \/ (L ≠ [] /\ q = b) := by
 unfold Au at h
 split at h
 ·exact .inl h
 ·split at h
  ·exact .inl h
  ·rename_i hL
   rcases List.mem_cons.1 h with h | h
   ·exact .inr ⟨hL, h⟩
   ·exact .inl h
end
structure Nm where
 name : List UInt8
 id : Int
def lf (n : Nm) : List AV := [.v (.string (ah n.name)), .v (.int .i64 n.id)]
theorem nmE : Elt lf 2 := ⟨by omega, fun _ => rfl, fun a c hc => by simp [lf] at hc; rcases hc with rfl | rfl <;> rfl, fun a n => by simp [lf]⟩
namespace Nm
def Rise (L : List Nm) : Prop := (L.map Nm.name).Pairwise (· < ·)
def get (k : List UInt8) (L : List Nm) : Option Int := (L.find? fun x => decide (x.name = k)).map Nm.id
def at_ (k : List UInt8) : List Nm -> Nat
 | [] => 0
 | x :: l => if x.name < k then at_ k l + 1 else 0
def ins (k : List UInt8) (v : Int) (L : List Nm) : List Nm := L.take (at_ k L) ++ [⟨k, v⟩] ++ L.drop (at_ k L)
theorem at_le (k : List UInt8) : ∀ L : List Nm, at_ k L <= L.length
 | [] => Q6 _
 | x :: l => by
  unfold at_
  have := at_le k l
  split <;> simp <;> omega
theorem at_lt {k : List UInt8} : ∀ {L : List Nm} {j : Nat} (hj : j < L.length), j < at_ k L -> L[j].name < k
 | x :: l, 0, _, h => by
  unfold at_ at h
  split at h
  ·rename_i hx; exact hx
  ·omega
 | x :: l, j + 1, hj, h => by
  unfold at_ at h
  split at h
  ·exact at_lt (L := l) (by simpa using hj) (by omega)
  ·omega
theorem at_ge {k : List UInt8} : ∀ {L : List Nm} (hj : at_ k L < L.length), ¬ L[at_ k L].name < k
 | x :: l, hj => by
  by_cases hx : x.name < k
  ·have e : at_ k (x :: l) = at_ k l + 1 := by show (if x.name < k then _ else _) = _; rw [if_pos hx]
   have h := at_ge (k := k) (L := l) (by rw [e] at hj; simpa using hj)
   simp only [e, List.getElem_cons_succ]
   exact h
  ·have e : at_ k (x :: l) = 0 := by show (if x.name < k then _ else _) = _; rw [if_neg hx]
   simp only [e, List.getElem_cons_zero]
   exact hx
theorem nL {L : List Nm} (h : Rise L) : (L.map Nm.name).Nodup := h.imp fun {a b} h e => by subst e; exact Rr _ h
theorem idx_inj {L : List Nm} (h : Rise L) {j k : Nat} (hj : j < L.length) (hk : k < L.length) (e : L[j].name = L[k].name) : j = k := by
 have h := Ri.1 h
 rcases Nat.lt_trichotomy j k with h1 | h1 | h1
 ·have := h j k (by simpa using hj) (by simpa using hk) h1
  simp [e] at this
  exact absurd this (Rr _)
 ·exact h1
 ·have := h k j (by simpa using hk) (by simpa using hj) h1
  simp [e] at this
  exact absurd this (Rr _)
theorem get_iff {L : List Nm} (h : Rise L) {k : List UInt8} {v : Int} : get k L = some v ↔ ∃ x ∈ L, x.name = k /\ x.id = v := by
 unfold get
 constructor
 ·intro hg
  cases hf : L.find? (fun x => decide (x.name = k)) with
  | none => rw [hf] at hg; cases hg
  | some x =>
   rw [hf] at hg
   injection hg with hg
   exact ⟨x, Rj hf, by simpa using Rz hf, hg⟩
 ·rintro ⟨x, hx, rfl, rfl⟩
  cases hf : L.find? (fun y => decide (y.name = x.name)) with
  | none => have := Rv.1 hf x hx; simp at this
  | some y =>
   have h1 := Rj hf
   have h2 : y.name = x.name := by simpa using Rz hf
   rw [cO (nL h) h1 hx h2]; rfl
theorem get_none {L : List Nm} {k : List UInt8} : get k L = none ↔ ∀ x ∈ L, x.name ≠ k := by
 unfold get
 rw [Option.map_eq_none_iff, Rv]
 simp
theorem get_at {L : List Nm} (h : Rise L) {j : Nat} (hj : j < L.length) : get L[j].name L = some L[j].id := (get_iff h).2 ⟨_, Q9 hj, rfl, rfl⟩
theorem y0 {L : List Nm} (h : Rise L) {k : List UInt8} (hk : ∀ x ∈ L, x.name ≠ k) (v : Int) : Rise (ins k v L) := by
 unfold Rise ins
 have hpw := Ri.1 h
 have low : ∀ x ∈ L.take (at_ k L), x.name < k := fun x hx => by
  obtain ⟨j, hj, rfl⟩ := Q7 hx
  rw [List.getElem_take]
  simp at hj
  exact at_lt (by omega) (by omega)
 have high : ∀ x ∈ L.drop (at_ k L), k < x.name := fun x hx => by
  obtain ⟨j, hj, rfl⟩ := Q7 hx
  rw [List.getElem_drop]
  simp at hj
  have hge := at_ge (k := k) (L := L) (by omega)
  have hne : L[at_ k L].name ≠ k := hk _ (Q9 _)
  have hlt0 : k < L[at_ k L].name := by
   rcases List.le_iff_lt_or_eq.1 (List.not_lt.1 hge) with h1 | h1
   ·exact h1
   ·exact absurd h1.symm hne
  cases j with
  | zero => simpa using hlt0
  | succ j =>
   have h2 := hpw (at_ k L) (at_ k L + (j + 1)) (by simp; omega) (by simp; omega) (by omega)
   simp at h2
   exact List.lt_trans hlt0 h2
 have all := (Rt (at_ k L) L)
 have hL : ((L.take (at_ k L)).map Nm.name ++ (L.drop (at_ k L)).map Nm.name).Pairwise (· < ·) := by rw [<- Rn, all]; exact h
 obtain ⟨p1, p2, p3⟩ := Re.1 hL
 rw [List.append_assoc, Rn, Rn, Re, Re]
 refine ⟨p1, ⟨by simp, p2, fun a ha b hb => ?_⟩, fun a ha b hb => ?_⟩
 ·obtain ⟨y, hy, rfl⟩ := Q2.1 hb
  simp at ha
  rw [ha]; exact high y hy
 ·obtain ⟨x, hx, rfl⟩ := Q2.1 ha
  rcases RA.1 hb with hb | hb
  ·simp at hb; rw [hb]; exact low x hx
  ·exact p3 _ (Q2.2 ⟨x, hx, rfl⟩) _ hb
theorem sL {L : List Nm} {k : List UInt8} {v : Int} {x : Nm} : x ∈ ins k v L ↔ x = ⟨k, v⟩ \/ x ∈ L := by
 have : x ∈ L ↔ x ∈ L.take (at_ k L) ++ L.drop (at_ k L) := by rw [Rt]
 rw [this]
 unfold ins
 simp only [RA, Rf]
 constructor
 ·rintro ((h | h) | h)
  ·exact .inr (.inl h)
  ·exact .inl h
  ·exact .inr (.inr h)
 ·rintro (h | h | h)
  ·exact .inl (.inr h)
  ·exact .inl (.inl h)
  ·exact .inr h
theorem Dx (k : List UInt8) (v : Int) (L : List Nm) : (ins k v L).length = L.length + 1 := by
 have := at_le k L
 unfold ins; simp; omega
def upd (j : Nat) (v : Int) (L : List Nm) : List Nm := match L[j]? with
 | some x => L.set j ⟨x.name, v⟩
 | none => L
def del (k : List UInt8) (L : List Nm) : List Nm := L.eraseP fun x => decide (x.name = k)
theorem del_idx {L : List Nm} (h : Rise L) {j : Nat} (hj : j < L.length) : del L[j].name L = L.take j ++ L.drop (j + 1) := by
 have key : ∀ {l : List Nm} {j : Nat} (hj : j < l.length), (∀ q (hq : q < l.length), l[q].name = l[j].name -> q = j) -> l.eraseP (fun x => decide (x.name = l[j].name)) = l.take j ++ l.drop (j + 1) := by
  intro l
  induction l with
  | nil => intro j hj; cases hj
  | cons x l ih =>
   intro j hj hu
   cases j with
   | zero => simp
   | succ j =>
    have hj' : j < l.length := by simpa using hj
    have hx : ¬ x.name = l[j].name := fun e => by have := hu 0 (by simp) (by simpa using e); omega
    have := ih (j := j) (by simpa using hj) fun q hq e => by have := hu (q + 1) (by simpa using hq) (by simpa using e); omega
    simp [hx, this]
 exact key hj fun q hq e => idx_inj h hq hj e
theorem rise_del {L : List Nm} (h : Rise L) (k : List UInt8) : Rise (del k L) := List.Pairwise.sublist ((Ru ..).map _) h
theorem get_del {L : List Nm} (h : Rise L) (k k' : List UInt8) : get k' (del k L) = if k' = k then none else get k' L := by
 refine KE.opt_ext fun u => ?_
 rw [get_iff (rise_del h k)]
 constructor
 ·rintro ⟨x, hx, rfl, rfl⟩
  obtain ⟨h1, h2⟩ := gK (nL h) hx
  rw [if_neg h2]; exact (get_iff h).2 ⟨x, h1, rfl, rfl⟩
 ·intro hg
  by_cases e : k' = k
  ·rw [if_pos e] at hg; cases hg
  ·rw [if_neg e] at hg
   obtain ⟨x, hx, h3, h4⟩ := (get_iff h).1 hg
   exact ⟨x, (List.mem_eraseP_of_neg (by simpa using fun e2 => e (h3.symm.trans e2))).2 hx, h3, h4⟩
def put (k : List UInt8) (v : Int) (L : List Nm) : List Nm := if (get k L).isSome = true then L.map (fun x => if x.name = k then ⟨x.name, v⟩ else x) else ins k v L
theorem put_at {L : List Nm} (h : Rise L) {j : Nat} (hj : j < L.length) (v : Int) : put L[j].name v L = L.set j ⟨L[j].name, v⟩ := by
 unfold put
 rw [get_at h hj]
 simp only [Rh, if_true]
 refine List.ext_getElem (by simp) fun q h1 h2 => ?_
 have hq : q < L.length := by simpa using h1
 rw [List.getElem_map, List.getElem_set]
 by_cases e : j = q
 ·subst e; simp
 ·rw [if_neg e, if_neg (fun e2 => e (idx_inj h hq hj e2).symm)]
theorem put_new {L : List Nm} {k : List UInt8} (hk : get k L = none) (v : Int) : put k v L = ins k v L := by unfold put; rw [hk]; rfl
theorem qa {L : List Nm} {k : List UInt8} (v : Int) : (L.map (fun x => if x.name = k then (⟨x.name, v⟩ : Nm) else x)).map Nm.name = L.map Nm.name := by
 rw [List.map_map]
 refine List.map_congr_left fun x _ => ?_
 simp only [Function.comp]
 split <;> rfl
theorem rise_put {L : List Nm} (h : Rise L) (k : List UInt8) (v : Int) : Rise (put k v L) := by
 unfold put
 cases hg : get k L with
 | none => exact y0 h (get_none.1 hg) v
 | some u =>
  simp only [Rh, if_true]
  unfold Rise
  rw [qa]; exact h
theorem get_put {L : List Nm} (h : Rise L) (k : List UInt8) (v : Int) (k' : List UInt8) : get k' (put k v L) = if k' = k then some v else get k' L := by
 refine KE.opt_ext fun u => ?_
 rw [get_iff (rise_put h k v)]
 unfold put
 cases hg : get k L with
 | none =>
  simp only [Option.isSome_none, Bool.false_eq_true, if_false]
  constructor
  ·rintro ⟨x, hx, rfl, rfl⟩
   rcases sL.1 hx with hx | hx
   ·subst hx; simp
   ·rw [if_neg (get_none.1 hg x hx)]; exact (get_iff h).2 ⟨x, hx, rfl, rfl⟩
  ·intro hu
   by_cases e : k' = k
   ·rw [if_pos e] at hu
    injection hu with hu
    exact ⟨⟨k, v⟩, sL.2 (.inl rfl), e.symm, hu⟩
   ·rw [if_neg e] at hu
    obtain ⟨x, hx, h3, h4⟩ := (get_iff h).1 hu
    exact ⟨x, sL.2 (.inr hx), h3, h4⟩
 | some w =>
  simp only [Rh, if_true]
  obtain ⟨s, hs, h1, h2⟩ := (get_iff h).1 hg
  constructor
  ·rintro ⟨x, hx, rfl, rfl⟩
   obtain ⟨y, hy, rfl⟩ := Q2.1 hx
   by_cases e : y.name = k
   ·simp [e]
   ·simp [e]; exact (get_iff h).2 ⟨y, hy, rfl, rfl⟩
  ·intro hu
   by_cases e : k' = k
   ·rw [if_pos e] at hu
    injection hu with hu
    exact ⟨⟨s.name, v⟩, Q2.2 ⟨s, hs, by rw [if_pos h1]⟩, h1.trans e.symm, hu⟩
   ·rw [if_neg e] at hu
    obtain ⟨x, hx, h3, h4⟩ := (get_iff h).1 hu
    have hne : ¬ x.name = k := fun e2 => e (h3.symm.trans e2)
    exact ⟨x, Q2.2 ⟨x, hx, by rw [if_neg hne]⟩, h3, h4⟩
theorem put_len (k : List UInt8) (v : Int) (L : List Nm) : (put k v L).length = if (get k L).isSome = true then L.length else L.length + 1 := by
 unfold put
 split
 ·simp
 ·exact Dx _ _ _
def Sim (e : List (KE Int)) (L : List Nm) : Prop := ∀ k, get k L = KE.get k e
theorem Sim.names {clock : Nat} {e : List (KE Int)} {L : List Nm} (h : Sim e L) (ho : KE.Ok clock e) (hr : Rise L) : tp (e.map KE.key) = L.map Nm.name := by
 refine tz hr ho.keys fun x => ?_
 have hx := h x
 constructor
 ·intro hm
  obtain ⟨y, hy, rfl⟩ := Q2.1 hm
  rw [(KE.get_iff ho).2 ⟨y, hy, rfl, rfl⟩] at hx
  obtain ⟨z, hz, h1, _⟩ := (get_iff hr).1 hx
  exact Q2.2 ⟨z, hz, h1⟩
 ·intro hm
  obtain ⟨y, hy, rfl⟩ := Q2.1 hm
  rw [(get_iff hr).2 ⟨y, hy, rfl, rfl⟩] at hx
  obtain ⟨z, hz, h1, _⟩ := (KE.get_iff ho).1 hx.symm
  exact Q2.2 ⟨z, hz, h1⟩
theorem Sim.len {clock : Nat} {e : List (KE Int)} {L : List Nm} (h : Sim e L) (ho : KE.Ok clock e) (hr : Rise L) : e.length = L.length := by
 have := congrArg Ro (h.names ho hr)
 simpa [tp, List.length_mergeSort] using this
theorem Sim.put {clock : Nat} {e : List (KE Int)} {L : List Nm} (h : Sim e L) (ho : KE.Ok clock e) (hr : Rise L) (k : List UInt8) (v : Int) : Sim (KE.put k clock v e) (put k v L) := fun k' => by
 rw [get_put hr, KE.get_put ho, h k']
end Nm
end Go.Proofs.YtdfgljojemmlcaaGreat.Ax
namespace Go.Proofs.YtdfgljojemmlcaaGreat.Ax
open Go.RowKit Go By
set_option maxRecDepth 10000
structure NlAt (lo : Nat) (h : List (List AV)) (i b most : Nat) (L : List Nm) : Prop where
 top : h[i]? = some [fH 2 b L, .v (.int .i64 (most : Int))]
 list : L ≠ [] -> h[b]? = some (ai lf L).flatten
 low : lo <= i /\ lo <= b
 apart : i ≠ b
 lt : aw h.length h
theorem NlAt.move {lo : Nat} {h : List (List AV)} {i b most : Nat} {L : List Nm} (hr : NlAt lo h i b most L) {h' : List (List AV)} (hi : h'[i]? = h[i]?) (hb : L ≠ [] -> h'[b]? = h[b]?) (hlt : aw h'.length h') : NlAt lo h' i b most L :=
 ⟨hi.trans hr.top, fun hne => (hb hne).trans (hr.list hne), hr.low, hr.apart, hlt⟩
theorem NlAt.app {lo : Nat} {h : List (List AV)} {i b most : Nat} {L : List Nm} (hr : NlAt lo h i b most L) (xs : List (List AV)) (hx : aw (h.length + xs.length) xs) : NlAt lo (h ++ xs) i b most L :=
 hr.move (Q3 (Q0.1 hr.top).1) (fun hne => Q3 (Q0.1 (hr.list hne)).1) (by rw [bF, Q8]; exact ⟨al (Rc _ _) hr.lt, hx⟩)
theorem NlAt.el {lo : Nat} {h : List (List AV)} {i b most : Nat} {L : List Nm} (hr : NlAt lo h i b most L) {j : Nat} (hj : j < L.length) : h[i]? = some [.bsl b 0 2 L.length, .v (.int .i64 (most : Int))] /\ h[b]? = some (ai lf L).flatten /\ (ai lf L).flatten[j * 2]? = some (.v (.string (ah L[j].name))) /\ (ai lf L).flatten[j * 2 + 1]? = some (.v (.int .i64 L[j].id)) /\ (ai lf L).flatten.length = L.length * 2 := by
 have hne : L ≠ [] := fun e => by rw [e] at hj; cases hj
 have h1 := hr.top
 rw [eO _ _ hne] at h1
 have e0 := nmE.at_ hj (q := 0) (by omega)
 have e1 := nmE.at_ hj (q := 1) (by omega)
 rw [Nat.add_zero] at e0
 exact ⟨h1, hr.list hne, e0, e1, nmE.flat_len _⟩
section
variable {lo : Nat} {h : List (List AV)} {i b most : Nat} {L : List Nm}
theorem GL (hr : NlAt lo h i b most L) (hs : Nm.Rise L) (hn : L.length <= 1000000) (k : List UInt8) : Contract Tryz.prog 71 [.box i 0, .v (.string (ah k))] h (.tup [.v (.int .i64 ((Nm.get k L).getD 0)), .v (.bool (Nm.get k L).isSome)]) h [] := by
 have hi := (Q0.1 hr.top).1
 refine ab QB mixed (by simp [Pt]) fun hh hargs => ?_
 simp [Pt]
 refine am (D := Nat) (fun j => ⟨[(0, .box i 0), (1, .v (.string (ah k))), (6, .v (.int .i64 (j : Int)))], [], h, []⟩) (fun j => j <= L.length /\ (∀ q (hq : q < L.length), q < j -> L[q].name ≠ k)) (fun j => L.length - j) 0 ⟨by omega, fun q hq h => by omega⟩ ?_ ?_
 ·simp [Leq, hh, ac, hi]
  done
 ·rintro j ⟨hj, hno⟩
  by_cases hlt : j < L.length
  ·obtain ⟨e1, e2, e3, e4, e5⟩ := hr.el hlt
   have hw : IntKind.i64.wrap ((j : Int) + 1) = (j : Int) + 1 := wrap64 (by omega) (by omega)
   by_cases e : L[j].name = k
   ·have hg : Nm.get k L = some L[j].id := by rw [<- e]; exact Nm.get_at hs hlt
    simp [e1, e2, e3, e4, hlt, aX, e, hg, hh]
    done
   ·simp [e1, e2, e3, e4, hlt, aX, e, hw]
    refine ⟨j + 1, ⟨by omega, fun q hq hqj => ?_⟩, by omega, ?_⟩
    ·rcases Nat.lt_succ_iff_lt_or_eq.1 hqj with h3 | h3
     ·exact hno q hq h3
     ·subst h3; exact e
    ·simp [Leq, hh, ac, hi]
  ·have : j = L.length := by omega
   subst this
   have hg : Nm.get k L = none := Nm.get_none.2 fun x hx => by
    obtain ⟨q, hq, rfl⟩ := Q7 hx
    exact hno q hq hq
   have h1 := hr.top
   by_cases hl : L = []
   ·subst hl
    simp [fH] at h1
    simp [h1, hh, hg]
    done
   ·rw [eO _ _ hl] at h1
    simp [h1, hh, hg]
    done
def tf (f : FuncId) (args : List AV) (lo : Nat) (h : List (List AV)) (i b most : Nat) (L : List Nm) (r : AV) (L' : List Nm) : Prop :=
 ∃ h' b', Contract Tryz.prog f args h r h' [i, b] /\ NlAt lo h' i b' most L' /\ (b' = b \/ h.length <= b') /\ h.length <= h'.length /\ (∀ q < h.length, q ≠ i -> q ≠ b -> h'[q]? = h[q]?) /\ (aQ h -> aQ h')
theorem NlAt.own (hr : NlAt lo h i b most L) {H : List (List AV)} {b' : Nat} {L' : List Nm} (hF : OwnL lf 2 h H b' L') (hb : L' = [] -> b' = b) : NlAt lo (H.set i [fH 2 b' L', .v (.int .i64 (most : Int))]) i b' most L' /\ (b' = b \/ h.length <= b') /\ h.length <= (H.set i [fH 2 b' L', .v (.int .i64 (most : Int))]).length /\ (∀ q < h.length, q ≠ i -> q ≠ b -> (H.set i [fH 2 b' L', .v (.int .i64 (most : Int))])[q]? = h[q]?) /\ (aQ h -> aQ (H.set i [fH 2 b' L', .v (.int .i64 (most : Int))])) := by
 have hi := (Q0.1 hr.top).1
 have hl := hF.len
 have hb2 : b' = b \/ h.length <= b' := by
  by_cases e : L' = []
  ·exact .inl (hb e)
  ·exact .inr (hF.own e).1
 have hne : i ≠ b' := by
  rcases hb2 with e | e
  ·rw [e]; exact hr.apart
  ·omega
 refine ⟨⟨Rq (by omega), fun e => ?_, ⟨hr.low.1, ?_⟩, hne, ?_⟩, hb2, by simp; omega, fun q hq n1 _ => ?_, fun hp => aP (hF.plain hp) (fun c hc => ?_) _⟩
 ·rw [Q5 hne]; exact (hF.own e).2
 ·rcases hb2 with e | e
  ·rw [e]; exact hr.low.2
  ·have := hr.low.1; omega
 ·rw [Rd]
  refine aN hF.lt ⟨CU fun e => (Q0.1 (hF.own e).2).1, trivial, trivial⟩
 ·rw [Q5 (Ne.symm n1)]; exact hF.ext q hq
 ·simp at hc
  rcases hc with rfl | rfl
  ·exact Dd _ _ _
  ·rfl
def Nm.full (most : Nat) (k : List UInt8) (L : List Nm) : Bool := !(Nm.get k L).isSome && decide (most <= L.length)
def Nm.set (most : Nat) (k : List UInt8) (v : Int) (L : List Nm) : List Nm := if Nm.full most k L = true then L else Nm.put k v L
def Nm.err (most : Nat) (k : List UInt8) (L : List Nm) : Int := if Nm.full most k L = true then 6 else 0
theorem BN (hr : NlAt lo h i b most L) (hs : Nm.Rise L) (hn : L.length <= 1000000) {j : Nat} (hj : j < L.length) (v : Int) : tf 24 [.box i 0, .v (.string (ah L[j].name)), .v (.int .i64 v)] lo h i b most L (.tup [.v (.int .i64 L[j].id), .v (.int .i64 0)]) (Nm.put L[j].name v L) := by
 have hi := (Q0.1 hr.top).1
 obtain ⟨f1, f2, f3, f4, f5⟩ := hr.el hj
 have hb := (Q0.1 f2).1
 have hset := nmE.set hj (q := 1) (by omega) (.v (.int .i64 v)) (⟨L[j].name, v⟩ : Nm) rfl
 rw [Nm.put_at hs hj]
 have hLne : L ≠ [] := fun e => by rw [e] at hj; cases hj
 have hL' : L.set j (⟨L[j].name, v⟩ : Nm) ≠ [] := fun e => hLne (Q4 (by have := congrArg Ro e; simpa using this))
 refine ⟨h.set b (ai lf (L.set j ⟨L[j].name, v⟩)).flatten, b, ?_, ⟨?_, fun _ => Rq hb, hr.low, hr.apart, ?_⟩, .inl rfl, by simp, fun q _ _ hq => Q5 (Ne.symm hq), fun hp => aP hp (nmE.flat_plain _) _⟩
 ·refine ab Og mixed (by simp [Fw]) fun hh hargs => ?_
  simp [Fw]
  refine am (D := Nat) (fun q => ⟨[(0, .box i 0), (1, .v (.string (ah L[j].name))), (2, .v (.int .i64 v)), (8, .v (.int .i64 (q : Int)))], [], h, []⟩) (fun q => q <= j) (fun q => j - q) 0 (by omega) ?_ ?_
  ·simp [Leq, hh, ac, hi]
   done
  ·intro q hq
   have hlt : q < L.length := by omega
   obtain ⟨e1, e2, e3, e4, e5⟩ := hr.el hlt
   have hw : IntKind.i64.wrap ((q : Int) + 1) = (q : Int) + 1 := wrap64 (by omega) (by omega)
   by_cases e : L[q].name = L[j].name
   ·have := Nm.idx_inj hs hlt hj e
    subst this
    have hsum := nmE.sum L
    have hle : q * 2 + 1 + 1 <= L.length * 2 := by omega
    have e3' : ∀ h, (ai lf L).flatten[q * 2]'h = .v (.string (ah L[q].name)) := fun h => by rw [Rl h] at e3; injection e3
    have e4' : ∀ h, (ai lf L).flatten[q * 2 + 1]'h = .v (.int .i64 L[q].id) := fun h => by rw [Rl h] at e4; injection e4
    simp [e1, e2, e3, e4, e3', e4', hlt, aX, hset, hsum, hle, hh]
    exact .inl (nmE.flat_lt _ _)
   ·simp [e1, e2, e3, e4, hlt, aX, e, hw]
    have hqj : q ≠ j := fun e2 => e (by subst e2; rfl)
    refine ⟨q + 1, by omega, by omega, ?_⟩
    ·simp [Leq, hh, ac, hi]
 ·rw [Q5 (Ne.symm hr.apart), f1, eO _ _ hL', Rd]
 ·rw [Rd]; exact aN hr.lt (nmE.flat_lt _ _)
set_option maxHeartbeats 2000000 in
theorem BO (hr : NlAt lo h i b most L) (hn : L.length <= 1000000) {k : List UInt8} (hk : Nm.get k L = none) (v : Int) : tf 24 [.box i 0, .v (.string (ah k)), .v (.int .i64 v)] lo h i b most L (.tup [.v (.int .i64 0), .v (.int .i64 (Nm.err most k L))]) (Nm.set most k v L) := by
 have hi := (Q0.1 hr.top).1
 have hno := Nm.get_none.1 hk
 have hlenE : ∀ j, j < L.length -> ¬ j = L.length := fun j h => by omega
 by_cases hfull : most <= L.length
 ·have hf : Nm.full most k L = true := by unfold Nm.full; rw [hk]; simp [hfull]
  have hset : Nm.set most k v L = L := by unfold Nm.set; rw [if_pos hf]
  have herr : Nm.err most k L = 6 := by unfold Nm.err; rw [if_pos hf]
  rw [hset, herr]
  refine ⟨h, b, ?_, hr, .inl rfl, Q6 _, fun _ _ _ _ => rfl, fun h => h⟩
  refine ab Og mixed (by simp [Fw]) fun hh hargs => ?_
  simp [Fw]
  refine am (D := Nat) (fun q => ⟨[(0, .box i 0), (1, .v (.string (ah k))), (2, .v (.int .i64 v)), (8, .v (.int .i64 (q : Int)))], [], h, []⟩) (fun q => q <= L.length) (fun q => L.length - q) 0 (by omega) ?_ ?_
  ·simp [Leq, hh, ac, hi]
   done
  ·intro q hq
   by_cases hlt : q < L.length
   ·obtain ⟨e1, e2, e3, e4, e5⟩ := hr.el hlt
    have hw : IntKind.i64.wrap ((q : Int) + 1) = (q : Int) + 1 := wrap64 (by omega) (by omega)
    have e := hno _ (Q9 hlt)
    simp [e1, e2, e3, e4, hlt, aX, e, hw]
    refine ⟨q + 1, by omega, by omega, ?_⟩
    simp [Leq, hh, ac, hi]
   ·have : q = L.length := by omega
    subst this
    have h1 := hr.top
    by_cases hl : L = []
    ·subst hl
     have hm : most = 0 := by simpa using hfull
     simp [fH, hm] at h1
     simp [h1, hh]
     done
    ·rw [eO _ _ hl] at h1
     simp [h1, hh, hfull]
     done
 ·have hf : Nm.full most k L = false := by unfold Nm.full; rw [hk]; simp; omega
  have hset : Nm.set most k v L = Nm.ins k v L := by unfold Nm.set; rw [if_neg (by simp [hf]), Nm.put_new hk]
  have herr : Nm.err most k L = 0 := by unfold Nm.err; rw [if_neg (by simp [hf])]
  rw [hset, herr]
  have hp := Nm.at_le k L
  obtain ⟨p, hpp⟩ : ∃ p, p = Nm.at_ k L := ⟨_, rfl⟩
  have hins : Nm.ins k v L = L.take p ++ [⟨k, v⟩] ++ L.drop p := by rw [hpp]; rfl
  have plow : ∀ q (hq : q < L.length), q < p -> L[q].name < k := fun q hq h => Nm.at_lt hq (by rw [<- hpp]; exact h)
  have phigh : ∀ (hq : p < L.length), ¬ L[p].name < k := fun hq => by subst hpp; exact Nm.at_ge hq
  rw [<- hpp] at hp
  rw [hins]
  have F0 : OwnL lf 2 h h b ([] : List Nm) := OwnL.nil hr.lt b
  have F1 := F0.ap nmE (L.take p)
  have F2 := F1.ap nmE [⟨k, v⟩]
  have F3 := F2.ap nmE (L.drop p)
  simp only [Rb] at F1 F2 F3
  obtain ⟨g1, g2, g3, g4, g5⟩ := hr.own F3 (by simp)
  have q3 := F3.ext i hi
  have w2 : ∀ q ∈ Au (qT h b (L.take p)) (L.take p) [(⟨k, v⟩ : Nm)] [], h.length <= q := fun q hq => by
   rcases sH hq with h1 | ⟨h1, h2⟩
   ·cases h1
   ·rw [h2]; exact (F1.own h1).1
  obtain ⟨W2, hW2⟩ : ∃ W, W = Au (qT h b (L.take p)) (L.take p) [(⟨k, v⟩ : Nm)] [] := ⟨_, rfl⟩
  rw [<- hW2] at w2
  obtain ⟨H1, hH1⟩ : ∃ H, H = w5 lf h b [] (L.take p) := ⟨_, rfl⟩
  obtain ⟨b1, hb1⟩ : ∃ b1, b1 = qT h b (L.take p) := ⟨_, rfl⟩
  obtain ⟨H2, hH2⟩ : ∃ H, H = w5 lf H1 b1 (L.take p) [(⟨k, v⟩ : Nm)] := ⟨_, rfl⟩
  obtain ⟨b2, hb2⟩ : ∃ b2, b2 = qT H1 b1 [(⟨k, v⟩ : Nm)] := ⟨_, rfl⟩
  obtain ⟨H3, hH3⟩ : ∃ H, H = w5 lf H2 b2 (L.take p ++ [(⟨k, v⟩ : Nm)]) (L.drop p) := ⟨_, rfl⟩
  obtain ⟨b3, hb3⟩ : ∃ b3, b3 = qT H2 b2 (L.drop p) := ⟨_, rfl⟩
  obtain ⟨W3, hW3⟩ : ∃ W, W = Au b2 (L.take p ++ [(⟨k, v⟩ : Nm)]) (L.drop p) W2 := ⟨_, rfl⟩
  simp only [<- hH1, <- hb1, <- hH2, <- hb2, <- hH3, <- hb3] at F1 F2 F3 g1 g2 g3 g4 g5 q3 hW2
  have w3 : ∀ q ∈ W3, h.length <= q := fun q hq => by
   rw [hW3] at hq
   rcases sH hq with h1 | ⟨h1, h2⟩
   ·exact w2 q h1
   ·rw [h2]; exact (F2.own h1).1
  have i2 : i ∉ W2 := fun h1 => by have := w2 i h1; omega
  have i3 : ∀ n, i ∉ W3.take n := fun n h1 => by have := w3 i (List.mem_of_mem_take h1); omega
  refine ⟨_, _, ?_, g1, g2, g3, g4, g5⟩
  refine ab Og mixed (by simp [Fw]) fun hh hargs => ?_
  simp [Fw]
  refine am (D := Nat) (fun q => ⟨[(0, .box i 0), (1, .v (.string (ah k))), (2, .v (.int .i64 v)), (8, .v (.int .i64 (q : Int)))], [], h, []⟩) (fun q => q <= L.length) (fun q => L.length - q) 0 (by omega) ?_ ?_
  ·simp [Leq, hh, ac, hi]
   done
  ·intro q hq
   by_cases hlt : q < L.length
   ·obtain ⟨e1, e2, e3, e4, e5⟩ := hr.el hlt
    have hw : IntKind.i64.wrap ((q : Int) + 1) = (q : Int) + 1 := wrap64 (by omega) (by omega)
    have e := hno _ (Q9 hlt)
    simp [e1, e2, e3, e4, hlt, aX, e, hw]
    refine ⟨q + 1, by omega, by omega, ?_⟩
    simp [Leq, hh, ac, hi]
   ·have : q = L.length := by omega
    subst this
    have h1 := hr.top
    have hfin : ∀ d : List (Nat × AV), True := fun _ => trivial
    by_cases hl : L = []
    ·subst hl
     have hm : ¬ most = 0 := by simpa using hfull
     simp [fH] at h1
     have hp0 : p = 0 := by simpa using hp
     subst hp0
     have hx1 : ∀ nul room, fu lf h 2 (.sl 2 [] nul room) (([] : List Nm).take 0) := fun nul room => dX rfl
     have hx3 : ∀ nul room, fu lf H2 2 (.sl 2 [] nul room) (([] : List Nm).drop 0) := fun nul room => dX rfl
     simp [h1, hm]
     refine am (D := Unit) (fun _ => ⟨[(0, .box i 0), (1, .v (.string (ah k))), (2, .v (.int .i64 v)), (10, .v (.int .i64 0))], [], h, []⟩) (fun _ => True) (fun _ => 0) () trivial ?_ ?_
     ·simp [Leq, hh, ac, hi]
      done
     ·intro _ _
      simp only [List.take_nil, List.drop_nil, Rb, Rm] at hH1 hb1 hH2 hb2 hH3 hb3 hW2 hW3 hx1 hx3 F1 F2 F3 g1 q3
      simp [h1]
      refine ⟨?_, ?_⟩
      ·refine .inl (cw nmE (L := ([] : List Nm)) (b := b) (fun h => absurd rfl h) (hx1 _ _) (by simp) (by simp) ?_)
       simp [<- hH1, <- hb1]
       refine cw nmE (X := [(⟨k, v⟩ : Nm)]) (fun hne => (F1.own hne).2) (dX rfl) (by simp) (by simp) ?_
       simp [<- hH2, <- hb2, <- hW2]
       refine ⟨i2, cw nmE (fun hne => (F2.own hne).2) (hx3 _ _) (by simp) (by simp) ?_⟩
       simp [<- hH3, <- hb3, <- hW3, i3, q3, h1]
       exact ⟨F3.len, by have := g1.lt; simpa using this, fun a h1 h2 => by have := w3 a h1; omega⟩
      ·refine .inl (cw nmE (L := ([] : List Nm)) (b := b) (fun h => absurd rfl h) (hx1 _ _) (by simp) (by simp) ?_)
       simp [<- hH1, <- hb1]
       refine cw nmE (X := [(⟨k, v⟩ : Nm)]) (fun hne => (F1.own hne).2) (dX rfl) (by simp) (by simp) ?_
       simp [<- hH2, <- hb2, <- hW2]
       refine ⟨i2, cw nmE (fun hne => (F2.own hne).2) (hx3 _ _) (by simp) (by simp) ?_⟩
       simp [<- hH3, <- hb3, <- hW3, i3, q3, h1]
       exact ⟨F3.len, by have := g1.lt; simpa using this, fun a h1 h2 => by have := w3 a h1; omega⟩
    ·rw [eO _ _ hl] at h1
     simp [h1, hfull]
     refine am (D := Nat) (fun q => ⟨[(0, .box i 0), (1, .v (.string (ah k))), (2, .v (.int .i64 v)), (10, .v (.int .i64 (q : Int)))], [], h, []⟩) (fun q => q <= p) (fun q => p - q) 0 (by omega) ?_ ?_
     ·simp [Leq, hh, ac, hi]
      done
     ·intro q hq
      by_cases hqp : q < p
      ·have hlt : q < L.length := by omega
       obtain ⟨e1, e2, e3, e4, e5⟩ := hr.el hlt
       have hw : IntKind.i64.wrap ((q : Int) + 1) = (q : Int) + 1 := wrap64 (by omega) (by omega)
       have e := plow q hlt hqp
       simp [e1, e2, e3, e4, hlt, aX, tr, e, hw]
       refine ⟨q + 1, by omega, by omega, ?_⟩
       simp [Leq, hh, ac, hi]
      ·have : q = p := by omega
       subst this
       have hb0 := hr.list hl
       have hx1 : fu lf h 2 (.bsl b 0 2 q) (L.take q) := iM nmE hb0 (lo := 0) (hi := q) (Rw _) (by omega) (by omega) (by omega)
       have hx3 : fu lf H2 2 (.bsl b (q * 2) 2 (L.length - q)) (L.drop q) := by
        have h2b := (F2.ext b (Q0.1 hb0).1).trans hb0
        have := iM nmE h2b (lo := q) (hi := L.length) (by omega) (Q6 _) (off := q * 2) (n := L.length - q) rfl rfl
        rwa [Rk] at this
       by_cases hlt : q < L.length
       ·obtain ⟨e1, e2, e3, e4, e5⟩ := hr.el hlt
        have e := phigh hlt
        simp [e1, e2, e3, e4, hlt, aX, tr, e]
        refine ⟨by omega, ?_, ?_⟩
        ·refine .inl (cw nmE (L := ([] : List Nm)) (b := b) (fun h => absurd rfl h) hx1 (by simp; omega) (by simp; omega) ?_)
         simp [<- hH1, <- hb1]
         refine cw nmE (X := [(⟨k, v⟩ : Nm)]) (fun hne => (F1.own hne).2) (dX rfl) (by simp; omega) (by simp; omega) ?_
         simp [<- hH2, <- hb2, <- hW2]
         refine ⟨i2, cw nmE (fun hne => (F2.own hne).2) hx3 (by simp; omega) (by simp; omega) ?_⟩
         simp [<- hH3, <- hb3, <- hW3, i3, q3, h1]
         exact ⟨F3.len, by have := g1.lt; simpa using this, fun a h1 h2 => by have := w3 a h1; omega⟩
        ·refine .inl (cw nmE (L := ([] : List Nm)) (b := b) (fun h => absurd rfl h) hx1 (by simp; omega) (by simp; omega) ?_)
         simp [<- hH1, <- hb1]
         refine cw nmE (X := [(⟨k, v⟩ : Nm)]) (fun hne => (F1.own hne).2) (dX rfl) (by simp; omega) (by simp; omega) ?_
         simp [<- hH2, <- hb2, <- hW2]
         refine ⟨i2, cw nmE (fun hne => (F2.own hne).2) hx3 (by simp; omega) (by simp; omega) ?_⟩
         simp [<- hH3, <- hb3, <- hW3, i3, q3, h1]
         exact ⟨F3.len, by have := g1.lt; simpa using this, fun a h1 h2 => by have := w3 a h1; omega⟩
       ·have hqe : q = L.length := by omega
        have hqi : (q : Int) = (L.length : Int) := by omega
        have hqn : ¬ (q : Int) < (L.length : Int) := by omega
        simp [h1, hqn]
        refine ⟨by omega, ?_, ?_⟩
        ·refine .inl (cw nmE (L := ([] : List Nm)) (b := b) (fun h => absurd rfl h) hx1 (by simp; omega) (by simp; omega) ?_)
         simp [<- hH1, <- hb1]
         refine cw nmE (X := [(⟨k, v⟩ : Nm)]) (fun hne => (F1.own hne).2) (dX rfl) (by simp; omega) (by simp; omega) ?_
         simp [<- hH2, <- hb2, <- hW2]
         refine ⟨i2, cw nmE (fun hne => (F2.own hne).2) hx3 (by simp; omega) (by simp; omega) ?_⟩
         simp [<- hH3, <- hb3, <- hW3, i3, q3, h1]
         exact ⟨F3.len, by have := g1.lt; simpa using this, fun a h1 h2 => by have := w3 a h1; omega⟩
        ·refine .inl (cw nmE (L := ([] : List Nm)) (b := b) (fun h => absurd rfl h) hx1 (by simp; omega) (by simp; omega) ?_)
         simp [<- hH1, <- hb1]
         refine cw nmE (X := [(⟨k, v⟩ : Nm)]) (fun hne => (F1.own hne).2) (dX rfl) (by simp; omega) (by simp; omega) ?_
         simp [<- hH2, <- hb2, <- hW2]
         refine ⟨i2, cw nmE (fun hne => (F2.own hne).2) hx3 (by simp; omega) (by simp; omega) ?_⟩
         simp [<- hH3, <- hb3, <- hW3, i3, q3, h1]
         exact ⟨F3.len, by have := g1.lt; simpa using this, fun a h1 h2 => by have := w3 a h1; omega⟩
end
theorem Fy {most : Nat} (h1 : 1 <= most) (h2 : most <= 4096) (h : List (List AV)) : Contract Tryz.prog 20 [.v (.int .i64 (most : Int))] h (.tup [.box h.length 0, .v (.int .i64 0)]) (h ++ [[.sl 0 [] (some true) .exact, .v (.int .i64 (most : Int))]]) [] := by
 refine ab PQ mixed (by simp [MU]) fun hh hargs => ?_
 have n1 : ¬ (most : Int) < 1 := by omega
 have n2 : ¬ (most : Int) > 4096 := by omega
 have hl := al (Rc h.length 1) hh
 simp [MU, n1, n2, hl]
 done
section
variable {lo : Nat} {h : List (List AV)} {i b most : Nat} {L : List Nm}
theorem Bs (hr : NlAt lo h i b most L) (hs : Nm.Rise L) (hn : L.length <= 1000000) (k : List UInt8) (v : Int) : tf 24 [.box i 0, .v (.string (ah k)), .v (.int .i64 v)] lo h i b most L (.tup [.v (.int .i64 ((Nm.get k L).getD 0)), .v (.int .i64 (Nm.err most k L))]) (Nm.set most k v L) := by
 cases hk : Nm.get k L with
 | none => exact BO hr hn hk v
 | some u =>
  obtain ⟨x, hx, h1, h2⟩ := (Nm.get_iff hs).1 hk
  obtain ⟨j, hj, rfl⟩ := Q7 hx
  have hf : Nm.full most k L = false := by unfold Nm.full; rw [hk]; rfl
  have e1 : Nm.set most k v L = Nm.put k v L := by unfold Nm.set; rw [if_neg (by simp [hf])]
  have e2 : Nm.err most k L = 0 := by unfold Nm.err; rw [if_neg (by simp [hf])]
  rw [e1, e2]
  subst h1 h2
  exact BN hr hs hn hj v
theorem DN (hr : NlAt lo h i b most L) (hs : Nm.Rise L) (hn : L.length <= 1000000) {j : Nat} (hj : j < L.length) : tf 102 [.box i 0, .v (.string (ah L[j].name))] lo h i b most L (.tup [.v (.int .i64 L[j].id), .v (.bool true)]) (Nm.del L[j].name L) := by
 have hi := (Q0.1 hr.top).1
 have hLne : L ≠ [] := fun e => by rw [e] at hj; cases hj
 have hb0 := hr.list hLne
 rw [Nm.del_idx hs hj]
 have F0 : OwnL lf 2 h h b ([] : List Nm) := OwnL.nil hr.lt b
 have F1 := F0.ap nmE (L.take j)
 have F2 := F1.ap nmE (L.drop (j + 1))
 simp only [Rb] at F1 F2
 obtain ⟨g1, g2, g3, g4, g5⟩ := hr.own F2 (fun e => by
  obtain ⟨e1, e2⟩ := List.append_eq_nil_iff.1 e
  unfold qT
  rw [if_pos e2, if_pos e1])
 have q2 := F2.ext i hi
 obtain ⟨H1, hH1⟩ : ∃ H, H = w5 lf h b [] (L.take j) := ⟨_, rfl⟩
 obtain ⟨b1, hb1⟩ : ∃ b1, b1 = qT h b (L.take j) := ⟨_, rfl⟩
 obtain ⟨H2, hH2⟩ : ∃ H, H = w5 lf H1 b1 (L.take j) (L.drop (j + 1)) := ⟨_, rfl⟩
 obtain ⟨b2, hb2⟩ : ∃ b2, b2 = qT H1 b1 (L.drop (j + 1)) := ⟨_, rfl⟩
 obtain ⟨W2, hW2⟩ : ∃ W, W = Au b1 (L.take j) (L.drop (j + 1)) [] := ⟨_, rfl⟩
 simp only [<- hH1, <- hb1, <- hH2, <- hb2] at F1 F2 g1 g2 g3 g4 g5 q2
 have w2 : ∀ q ∈ W2, h.length <= q := fun q hq => by
  rw [hW2] at hq
  rcases sH hq with h1 | ⟨h1, h2⟩
  ·cases h1
  ·rw [h2]; exact (F1.own h1).1
 have i2 : i ∉ W2 := fun h1 => by have := w2 i h1; omega
 refine ⟨_, _, ?_, g1, g2, g3, g4, g5⟩
 refine ab Ks mixed (by simp [yX]) fun hh hargs => ?_
 simp [yX]
 refine am (D := Nat) (fun q => ⟨[(0, .box i 0), (1, .v (.string (ah L[j].name))), (6, .v (.int .i64 (q : Int)))], [], h, []⟩) (fun q => q <= j) (fun q => j - q) 0 (by omega) ?_ ?_
 ·simp [Leq, hh, ac, hi]
  done
 ·intro q hq
  have hlt : q < L.length := by omega
  obtain ⟨e1, e2, e3, e4, e5⟩ := hr.el hlt
  have hw : IntKind.i64.wrap ((q : Int) + 1) = (q : Int) + 1 := wrap64 (by omega) (by omega)
  by_cases e : L[q].name = L[j].name
  ·have := Nm.idx_inj hs hlt hj e
   subst this
   have hx1 : fu lf h 2 (.bsl b 0 2 q) (L.take q) := iM nmE hb0 (lo := 0) (hi := q) (Rw _) (by omega) (by omega) (by omega)
   have hx2 : fu lf H1 2 (.bsl b ((q + 1) * 2) 2 (L.length - (q + 1))) (L.drop (q + 1)) := by
    have h2b := (F1.ext b (Q0.1 hb0).1).trans hb0
    have := iM nmE h2b (lo := q + 1) (hi := L.length) (by omega) (Q6 _) (off := (q + 1) * 2) (n := L.length - (q + 1)) rfl rfl
    rwa [Rk] at this
   have hsub2 : ((L.length : Int) - ((q : Int) + 1)).toNat = L.length - (q + 1) := by omega
   have hqi : (q : Int) < (L.length : Int) := by omega
   simp [e1, e2, e3, e4, hlt, aX, hw, hsub2]
   refine ⟨by omega, by omega, .inl (cw nmE (L := ([] : List Nm)) (b := b) (fun h => absurd rfl h) hx1 (by simp; omega) (by simp; omega) ?_)⟩
   simp [<- hH1, <- hb1]
   refine cw nmE (fun hne => (F1.own hne).2) hx2 (by simp; omega) (by simp; omega) ?_
   simp [<- hH2, <- hb2, <- hW2, i2, q2, e1]
   exact ⟨F2.len, by have := g1.lt; simpa using this, fun a h1 h2 => by have := w2 a h1; omega⟩
  ·have hqj : q ≠ j := fun e2 => e (by subst e2; rfl)
   simp [e1, e2, e3, e4, hlt, aX, e, hw]
   refine ⟨q + 1, by omega, by omega, ?_⟩
   simp [Leq, hh, ac, hi]
theorem Dm (hr : NlAt lo h i b most L) (hn : L.length <= 1000000) {k : List UInt8} (hk : Nm.get k L = none) : Contract Tryz.prog 102 [.box i 0, .v (.string (ah k))] h (.tup [.v (.int .i64 0), .v (.bool false)]) h [i, b] := by
 have hi := (Q0.1 hr.top).1
 have hno := Nm.get_none.1 hk
 refine ab Ks mixed (by simp [yX]) fun hh hargs => ?_
 simp [yX]
 refine am (D := Nat) (fun q => ⟨[(0, .box i 0), (1, .v (.string (ah k))), (6, .v (.int .i64 (q : Int)))], [], h, []⟩) (fun q => q <= L.length) (fun q => L.length - q) 0 (by omega) ?_ ?_
 ·simp [Leq, hh, ac, hi]
  done
 ·intro q hq
  by_cases hlt : q < L.length
  ·obtain ⟨e1, e2, e3, e4, e5⟩ := hr.el hlt
   have hw : IntKind.i64.wrap ((q : Int) + 1) = (q : Int) + 1 := wrap64 (by omega) (by omega)
   have e := hno _ (Q9 hlt)
   simp [e1, e2, e3, e4, hlt, aX, e, hw]
   refine ⟨q + 1, by omega, by omega, ?_⟩
   simp [Leq, hh, ac, hi]
  ·have : q = L.length := by omega
   subst this
   have h1 := hr.top
   by_cases hl : L = []
   ·subst hl
    simp [fH] at h1
    simp [h1, hh]
    done
   ·rw [eO _ _ hl] at h1
    simp [h1, hh]
    done
theorem Hs (hr : NlAt lo h i b most L) (hs : Nm.Rise L) (hn : L.length <= 1000000) (k : List UInt8) : tf 102 [.box i 0, .v (.string (ah k))] lo h i b most L (.tup [.v (.int .i64 ((Nm.get k L).getD 0)), .v (.bool (Nm.get k L).isSome)]) (Nm.del k L) := by
 cases hk : Nm.get k L with
 | none =>
  have e : Nm.del k L = L := List.eraseP_of_forall_not fun x hx => by have := Nm.get_none.1 hk x hx; simpa using this
  rw [e]
  exact ⟨h, b, Dm hr hn hk, hr, .inl rfl, Q6 _, fun _ _ _ _ => rfl, fun h => h⟩
 | some u =>
  obtain ⟨x, hx, h1, h2⟩ := (Nm.get_iff hs).1 hk
  obtain ⟨j, hj, rfl⟩ := Q7 hx
  subst h1 h2
  exact DN hr hs hn hj
end
structure Both (T : Tb) (L : List Nm) : Prop where
 ok : TbOk T
 rise : Nm.Rise L
 sim : Nm.Sim T.e L
theorem Both.get {T : Tb} {L : List Nm} (h : Both T L) (k : List UInt8) : Nm.get k L = T.get k := h.sim k
theorem Both.len {T : Tb} {L : List Nm} (h : Both T L) : T.e.length = L.length := h.sim.len h.ok.ok h.rise
theorem Both.few {T : Tb} {L : List Nm} (h : Both T L) : L.length <= 4096 := by rw [<- h.len]; exact Nat.le_trans h.ok.len h.ok.most.2
theorem Both.full {T : Tb} {L : List Nm} (h : Both T L) (k : List UInt8) : Nm.full T.most k L = T.full k := by unfold Nm.full Tb.full; rw [h.get, h.len]
theorem Both.set {T : Tb} {L : List Nm} (h : Both T L) (k : List UInt8) (v : Int) : Both (T.set k v) (Nm.set T.most k v L) := by
 refine ⟨h.ok.set k v, ?_, ?_⟩
 ·unfold Nm.set
  split
  ·exact h.rise
  ·exact Nm.rise_put h.rise k v
 ·unfold Nm.set Tb.set
  rw [h.full]
  split
  ·exact h.sim
  ·exact h.sim.put h.ok.ok h.rise k v
theorem zU (h : List (List AV)) {most : Nat} (h1 : 1 <= most) (h2 : most <= 4096) : Both (nP h most) [] := ⟨BY h h1 h2, List.Pairwise.nil, fun _ => rfl⟩
def opsOf (l : List En) : List To := l.flatMap En.good
def stepG (name : List UInt8) (g : Option Int) (op : To) : Option Int := if op.name = name then (if op.set = true then some op.id else none) else g
def dj (name : List UInt8) (g : Option Int) (ops : List To) : Option Int := ops.foldl (stepG name) g
def fG (L : List Nm) (op : To) : List Nm := if op.set = true then Nm.put op.name op.id L else Nm.del op.name L
def kG (L : List Nm) (ops : List To) : List Nm := ops.foldl fG L
theorem qw {L : List Nm} (h : Nm.Rise L) (op : To) : Nm.Rise (fG L op) := by
 unfold fG
 split
 ·exact Nm.rise_put h _ _
 ·exact Nm.rise_del h _
theorem qh : ∀ {ops : List To} {L : List Nm}, Nm.Rise L -> Nm.Rise (kG L ops)
 | [], _, h => h
 | op :: r, _, h => qh (ops := r) (qw h op)
theorem xB {L : List Nm} (h : Nm.Rise L) (op : To) (name : List UInt8) : Nm.get name (fG L op) = stepG name (Nm.get name L) op := by
 unfold fG stepG
 by_cases e : name = op.name
 ·subst e
  split
  ·rw [Nm.get_put h, if_pos rfl]
  ·rw [Nm.get_del h, if_pos rfl]
 ·have e2 : ¬ op.name = name := fun h => e h.symm
  split
  ·rw [Nm.get_put h, if_neg e]
  ·rw [Nm.get_del h, if_neg e]
theorem tj (name : List UInt8) : ∀ {ops : List To} {L : List Nm}, Nm.Rise L -> Nm.get name (kG L ops) = dj name (Nm.get name L) ops
 | [], _, _ => rfl
 | op :: r, L, h => by
  show Nm.get name (kG (fG L op) r) = dj name (stepG name (Nm.get name L) op) r
  rw [tj name (ops := r) (qw h op), xB h]
theorem rp (L : List Nm) (op : To) : (fG L op).length <= L.length + 1 := by
 unfold fG
 split
 ·rw [Nm.put_len]; split <;> omega
 ·have : (Nm.del op.name L).length <= L.length := (Ru ..).length_le
  omega
theorem rO : ∀ (ops : List To) (L : List Nm), (kG L ops).length <= L.length + ops.length
 | [], L => by simp [kG]
 | op :: r, L => by
  have h1 := rO r (fG L op)
  have h2 := rp L op
  show (kG (fG L op) r).length <= _
  rw [Rx]; omega
theorem wb (name : List UInt8) (g : Option Int) (ops : List To) (op : To) : dj name g (ops ++ [op]) = stepG name (dj name g ops) op := by
 unfold dj; rw [List.foldl_append]; rfl
theorem rF {α : Type} {l : List α} {j : Nat} (hj : j < l.length) : l.take (j + 1) = l.take j ++ [l[j]] := by rw [List.take_succ_eq_append_getElem hj]
def ii (most : Nat) (L : List Nm) (op : To) : List Nm := if op.set = true then Nm.set most op.name op.id L else Nm.del op.name L
end Go.Proofs.YtdfgljojemmlcaaGreat.Ax
