import Derived.Test.YtdfgljojemmlcaaGreatQAxMs
import Derived.Test.YtdfgljojemmlcaaGreatQAxIb
import Derived.Test.YtdfgljojemmlcaaGreatQAxTc
set_option linter.unusedSimpArgs false
set_option linter.unusedVariables false
namespace Go.Proofs.YtdfgljojemmlcaaGreat.Ax
open Go.RowKit Go By
set_option maxRecDepth 10000
structure Elt {α : Type} (f : α -> List AV) (k : Nat) : Prop where
 two : 2 <= k
 len : ∀ a, (f a).length = k
 plain : ∀ a, ∀ c ∈ f a, c.idOf = none
 lt : ∀ a n, ltL n (f a)
section
variable {α : Type} {f : α -> List AV} {k : Nat}
theorem Elt.flat_len (he : Elt f k) (l : List α) : (enc f l).flatten.length = l.length * k := by
 induction l with
 | nil => simp
 | cons x l ih =>
  have e : enc f (x :: l) = f x :: enc f l := rfl
  rw [e, List.flatten_cons, List.length_append, ih, he.len, List.length_cons, Nat.add_mul]; omega
theorem Elt.sum (he : Elt f k) (l : List α) : (List.map List.length (enc f l)).sum = l.length * k := by rw [<- List.length_flatten]; exact he.flat_len l
theorem Elt.at_ (he : Elt f k) : ∀ {l : List α} {j q : Nat} (hj : j < l.length) (hq : q < k), (enc f l).flatten[j * k + q]? = (f l[j])[q]?
 | x :: l, 0, q, _, hq => by
  have e : enc f (x :: l) = f x :: enc f l := rfl
  rw [e, List.flatten_cons, List.getElem?_append_left (by rw [he.len]; omega)]
  simp
 | x :: l, j + 1, q, hj, hq => by
  have e : enc f (x :: l) = f x :: enc f l := rfl
  have e1 : (j + 1) * k + q = k + (j * k + q) := by rw [Nat.add_mul]; omega
  rw [e, e1, List.flatten_cons, List.getElem?_append_right (by rw [he.len]; omega), he.len, show k + (j * k + q) - k = j * k + q by omega, he.at_ (by simpa using hj) hq]
  simp
theorem Elt.set (he : Elt f k) : ∀ {l : List α} {j q : Nat} (hj : j < l.length) (hq : q < k) (c : AV) (a : α), f a = (f l[j]).set q c -> (enc f l).flatten.set (j * k + q) c = (enc f (l.set j a)).flatten
 | x :: l, 0, q, _, hq, c, a, ha => by
  have e : enc f (x :: l) = f x :: enc f l := rfl
  rw [e, List.flatten_cons, List.set_append_left _ _ (by rw [he.len]; omega)]
  have e2 : enc f ((x :: l).set 0 a) = f a :: enc f l := rfl
  rw [e2, List.flatten_cons, ha]
  simp
 | x :: l, j + 1, q, hj, hq, c, a, ha => by
  have e : enc f (x :: l) = f x :: enc f l := rfl
  have e1 : (j + 1) * k + q = k + (j * k + q) := by rw [Nat.add_mul]; omega
  rw [e, e1, List.flatten_cons, List.set_append_right _ _ (by rw [he.len]; omega), he.len, show k + (j * k + q) - k = j * k + q by omega, he.set (by simpa using hj) hq c a (by simpa using ha)]
  rfl
theorem Elt.take (he : Elt f k) : ∀ (l : List α) (j : Nat), (enc f l).flatten.take (j * k) = (enc f (l.take j)).flatten
 | [], j => by simp [enc]
 | x :: l, 0 => by simp [enc]
 | x :: l, j + 1 => by
  have e : enc f (x :: l) = f x :: enc f l := rfl
  have e2 : enc f (x :: l.take j) = f x :: enc f (l.take j) := rfl
  have e3 : (j + 1) * k = k + j * k := by rw [Nat.add_mul]; omega
  rw [List.take_succ_cons, e, e2, e3, List.flatten_cons, List.flatten_cons, List.take_append, he.len, show k + j * k - k = j * k by omega, he.take l j, List.take_of_length_le (by rw [he.len]; omega)]
theorem Elt.drop (he : Elt f k) : ∀ (l : List α) (j : Nat), (enc f l).flatten.drop (j * k) = (enc f (l.drop j)).flatten
 | [], j => by simp [enc]
 | x :: l, 0 => by simp [enc]
 | x :: l, j + 1 => by
  have e : enc f (x :: l) = f x :: enc f l := rfl
  have e3 : (j + 1) * k = k + j * k := by rw [Nat.add_mul]; omega
  rw [List.drop_succ_cons, e, e3, List.flatten_cons, List.drop_append, he.len, show k + j * k - k = j * k by omega, he.drop l j, List.drop_of_length_le (by rw [he.len]; omega), List.nil_append]
theorem Elt.flat_plain (he : Elt f k) (l : List α) : ∀ c ∈ (enc f l).flatten, c.idOf = none := fun c hc => by
 obtain ⟨e, he2, hc⟩ := List.mem_flatten.1 hc
 obtain ⟨s, _, rfl⟩ := List.mem_map.1 he2
 exact he.plain s c hc
theorem Elt.flat_lt (he : Elt f k) (n : Nat) (l : List α) : ltL n (enc f l).flatten := ltL_of fun j c hj => by
 obtain ⟨e, he2, hc⟩ := List.mem_flatten.1 (List.mem_of_getElem? hj)
 obtain ⟨s, _, rfl⟩ := List.mem_map.1 he2
 obtain ⟨q, hq⟩ := List.getElem?_of_mem hc
 exact ltL_get (he.lt s n) q c hq
def lisV (k b : Nat) : List α -> AV
 | [] => .sl 0 [] (some true) .exact
 | x :: l => .bsl b 0 k (x :: l).length
theorem lisV_some (k b : Nat) {l : List α} (h : l ≠ []) : lisV k b l = .bsl b 0 k l.length := by cases l with | nil => exact absurd rfl h | cons _ _ => rfl
@[simp] theorem lisV_cells (k b : Nat) (l : List α) : (lisV k b l).cells = some [lisV k b l] := by cases l <;> rfl
@[simp] theorem lisV_unown (k b : Nat) (l : List α) : (lisV k b l).unown = lisV k b l := by cases l <;> rfl
@[simp] theorem lisV_id (k b : Nat) (l : List α) : (lisV k b l).idOf = none := by cases l <;> rfl
theorem lisV_lt {k b n : Nat} {l : List α} (h : l ≠ [] -> b < n) : (lisV k b l).lt n := by
 cases l with
 | nil => exact trivial
 | cons x l => exact h (by simp)
def IsRows (f : α -> List AV) (h : List (List AV)) (k : Nat) (x : AV) (X : List α) : Prop :=
 (X ≠ [] /\ rowsOf h k x = some (enc f X)) \/ (X = [] /\ match x with | .sl _ es _ _ => es = [] | .bsl _ _ _ m => m = 0 | _ => False)
theorem rows_cut (he : Elt f k) {H : List (List AV)} {b : Nat} {l : List α} (hb : H[b]? = some (enc f l).flatten) {lo hi : Nat} (h1 : lo <= hi) (h2 : hi <= l.length) : rowsOf H k (.bsl b (lo * k) k (hi - lo)) = some (enc f ((l.take hi).drop lo)) := by
 show (if k = k then (H[b]?).bind fun cs => if lo * k + (hi - lo) * k <= cs.length then some (chunk k (hi - lo) ((cs.drop (lo * k)).take ((hi - lo) * k))) else none else none) = _
 rw [if_pos rfl, hb]
 have hle : lo * k + (hi - lo) * k <= l.length * k := by
  rw [<- Nat.add_mul]; exact Nat.mul_le_mul_right k (by omega)
 show (if lo * k + (hi - lo) * k <= (enc f l).flatten.length then some (chunk k (hi - lo) (((enc f l).flatten.drop (lo * k)).take ((hi - lo) * k))) else none) = _
 rw [if_pos (by rw [he.flat_len]; exact hle), he.drop, he.take]
 have e : (l.drop lo).take (hi - lo) = (l.take hi).drop lo := by rw [List.drop_take]
 have hl : ((l.take hi).drop lo).length = hi - lo := by simp; omega
 rw [e]
 have := chunk_flat he.len ((l.take hi).drop lo)
 rw [hl] at this
 rw [this]
theorem isRows_cut (he : Elt f k) {H : List (List AV)} {b : Nat} {l : List α} (hb : H[b]? = some (enc f l).flatten) {lo hi : Nat} (h1 : lo <= hi) (h2 : hi <= l.length) {c : Prop} [Decidable c] (hc : c ↔ lo = hi) {off n : Nat} (ho : off = lo * k) (hn : n = hi - lo) {nul : Option Bool} {room : Room} :
  IsRows f H k (if c then .sl k [] nul room else .bsl b off k n) ((l.take hi).drop lo) := by
 subst ho hn
 have hl : ((l.take hi).drop lo).length = hi - lo := by simp; omega
 by_cases e : lo = hi
 ·rw [if_pos (hc.2 e)]
  exact .inr ⟨List.eq_nil_of_length_eq_zero (by omega), rfl⟩
 ·rw [if_neg (fun h => e (hc.1 h))]
  exact .inl ⟨fun h => by rw [h] at hl; simp at hl; omega, rows_cut he hb h1 h2⟩
theorem isRows_bsl (he : Elt f k) {H : List (List AV)} {b : Nat} {l : List α} (hb : H[b]? = some (enc f l).flatten) {lo hi : Nat} (h1 : lo <= hi) (h2 : hi <= l.length) {off n : Nat} (ho : off = lo * k) (hn : n = hi - lo) :
  IsRows f H k (.bsl b off k n) ((l.take hi).drop lo) := by
 subst ho hn
 have hl : ((l.take hi).drop lo).length = hi - lo := by simp; omega
 by_cases e : lo = hi
 ·exact .inr ⟨List.eq_nil_of_length_eq_zero (by omega), by show hi - lo = 0; omega⟩
 ·exact .inl ⟨fun h => by rw [h] at hl; simp at hl; omega, rows_cut he hb h1 h2⟩
theorem isRows_sl {H : List (List AV)} {X : List α} {es : List (List AV)} {nul : Option Bool} {room : Room} (h : es = enc f X) : IsRows f H k (.sl k es nul room) X := by
 subst h
 cases X with
 | nil => exact .inr ⟨rfl, rfl⟩
 | cons x X => exact .inl ⟨by simp, by show (if k = k then _ else _) = _; rw [if_pos rfl]⟩
def apH (f : α -> List AV) (h : List (List AV)) (b : Nat) (L X : List α) : List (List AV) := if X = [] then h else if L = [] then h ++ [(enc f X).flatten] else h.set b [] ++ [(enc f (L ++ X)).flatten]
def apB (h : List (List AV)) (b : Nat) (X : List α) : Nat := if X = [] then b else h.length
def apW (b : Nat) (L X : List α) (wr : List Nat) : List Nat := if X = [] then wr else if L = [] then wr else b :: wr
theorem ap_run (he : Elt f k) {s : St} {b bytes : Nat} {d : Option Nat} {L X : List α} {x : AV} {K : St -> List Nat -> Prop} (hb : L ≠ [] -> s.heap[b]? = some (enc f L).flatten) (hx : IsRows f s.heap k x X) (h1 : (L.length + X.length) * bytes <= 140737488355328) (h2 : L.length + X.length <= 140737488355328)
  (hK : K (({ s with heap := apH f s.heap b L X, wr := apW b L X s.wr } : St).puts d (lisV k (apB s.heap b X) (L ++ X)) false) []) : xappendA s k bytes d (lisV k b L) x K := by
 have ht := he.two
 rcases hx with ⟨hX, hr⟩ | ⟨hX, hr⟩
 ·unfold apH apW apB at hK
  rw [if_neg hX, if_neg hX, if_neg hX, lisV_some _ _ (by simp [hX])] at hK
  have hne : enc f X ≠ [] := fun e => hX (List.eq_nil_of_length_eq_zero (by have := congrArg List.length e; simpa using this))
  have hel : (enc f X).length = X.length := by simp
  cases L with
  | nil =>
   rw [if_pos rfl, if_pos rfl] at hK
   refine .inr (.inl ⟨_, hr, hne, he.flat_plain X, ?_⟩)
   show (_ /\ (enc f X).length * bytes <= _ /\ (enc f X).length <= _ /\ _) \/ _
   rw [hel]
   simp only [List.length_nil, Nat.zero_add, List.nil_append] at h1 h2 hK
   exact .inl ⟨.inl rfl, h1, h2, hK⟩
  | cons y L =>
   rw [if_neg (by simp), if_neg (by simp)] at hK
   refine .inr (.inl ⟨_, hr, hne, he.flat_plain X, ?_⟩)
   have hfl := he.flat_len (y :: L)
   show k = k /\ _
   refine ⟨rfl, _, hb (by simp), fun e => ?_, by rw [hfl, Nat.zero_add]; exact Nat.le_refl _, he.flat_plain _, by rw [hel]; exact h1, by rw [hel]; exact h2, ?_⟩
   ·rw [e] at hfl; simp [Nat.add_mul] at hfl; omega
   ·rw [hel, List.drop_zero, List.take_of_length_le (by rw [hfl]; exact Nat.le_refl _)]
    have e : enc f (y :: L ++ X) = enc f (y :: L) ++ enc f X := by simp [enc]
    rw [e, List.flatten_append, List.length_append] at hK
    exact hK
 ·subst hX
  unfold apH apW apB at hK
  rw [if_pos rfl, if_pos rfl, if_pos rfl, List.append_nil] at hK
  cases L with
  | nil => exact .inr (.inr ⟨hr, .inl ⟨ht, rfl, hK⟩⟩)
  | cons y L => exact .inr (.inr ⟨hr, ht, hK⟩)
structure OwnL (f : α -> List AV) (k : Nat) (h0 h : List (List AV)) (b : Nat) (L : List α) : Prop where
 len : h0.length <= h.length
 ext : ∀ q < h0.length, h[q]? = h0[q]?
 lt : ltLL h.length h
 plain : plainH h0 -> plainH h
 own : L ≠ [] -> h0.length <= b /\ h[b]? = some (enc f L).flatten
theorem OwnL.nil {h : List (List AV)} (hh : ltLL h.length h) (b : Nat) : OwnL f k h h b ([] : List α) := ⟨Nat.le_refl _, fun _ _ => rfl, hh, fun h => h, fun h => absurd rfl h⟩
theorem OwnL.ap (he : Elt f k) {h0 h : List (List AV)} {b : Nat} {L : List α} (hF : OwnL f k h0 h b L) (X : List α) : OwnL f k h0 (apH f h b L X) (apB h b X) (L ++ X) := by
 unfold apH apB
 by_cases hX : X = []
 ·subst hX
  rw [if_pos rfl, if_pos rfl, List.append_nil]; exact hF
 ·rw [if_neg hX, if_neg hX]
  by_cases hL : L = []
  ·subst hL
   rw [if_pos rfl]
   refine ⟨by have := hF.len; simp; omega, fun q hq => ?_, ?_, fun hp => plainH_append (hF.plain hp) ?_, fun _ => ⟨hF.len, by simp⟩⟩
   ·rw [List.getElem?_append_left (by have := hF.len; omega)]; exact hF.ext q hq
   ·rw [List.length_append]
    exact ltLL_append.2 ⟨ltLL_mono (Nat.le_add_right _ _) hF.lt, by simp; exact he.flat_lt _ _⟩
   ·intro x hx; rw [List.mem_singleton.1 hx]; exact he.flat_plain X
  ·rw [if_neg hL]
   obtain ⟨hb1, hb2⟩ := hF.own hL
   refine ⟨by have := hF.len; simp; omega, fun q hq => ?_, ?_, fun hp => plainH_append (plainH_set (hF.plain hp) (fun c hc => by cases hc) _) ?_, fun _ => ⟨hF.len, by simp⟩⟩
   ·rw [List.getElem?_append_left (by have := hF.len; simp; omega), List.getElem?_set_ne (by omega)]; exact hF.ext q hq
   ·rw [List.length_append, List.length_set]
    exact ltLL_append.2 ⟨ltLL_set (ltLL_mono (Nat.le_add_right _ _) hF.lt) (by simp), by simp; simpa using he.flat_lt _ (L ++ X)⟩
   ·intro x hx; rw [List.mem_singleton.1 hx]; exact he.flat_plain _
@[simp] theorem apW_nil (b : Nat) (X : List α) (wr : List Nat) : apW b [] X wr = wr := by unfold apW; split <;> rfl
theorem apW_mem {b : Nat} {L X : List α} {wr : List Nat} {q : Nat} (h : q ∈ apW b L X wr) : q ∈ wr \/ (L ≠ [] /\ q = b) := by
 unfold apW at h
 split at h
 ·exact .inl h
 ·split at h
  ·exact .inl h
  ·rename_i hL
   rcases List.mem_cons.1 h with h | h
   ·exact .inr ⟨hL, h⟩
   ·exact .inl h
end
structure Nm where
 name : List UInt8
 id : Int
def nmC (n : Nm) : List AV := [.v (.string (strB n.name)), .v (.int .i64 n.id)]
theorem nmE : Elt nmC 2 := ⟨by omega, fun _ => rfl, fun a c hc => by simp [nmC] at hc; rcases hc with rfl | rfl <;> rfl, fun a n => by simp [nmC]⟩
namespace Nm
def Rise (L : List Nm) : Prop := (L.map Nm.name).Pairwise (· < ·)
def get (k : List UInt8) (L : List Nm) : Option Int := (L.find? fun x => decide (x.name = k)).map Nm.id
def at_ (k : List UInt8) : List Nm -> Nat
 | [] => 0
 | x :: l => if x.name < k then at_ k l + 1 else 0
def ins (k : List UInt8) (v : Int) (L : List Nm) : List Nm := L.take (at_ k L) ++ [⟨k, v⟩] ++ L.drop (at_ k L)
theorem at_le (k : List UInt8) : ∀ L : List Nm, at_ k L <= L.length
 | [] => Nat.le_refl _
 | x :: l => by
  unfold at_
  have := at_le k l
  split <;> simp <;> omega
theorem at_lt {k : List UInt8} : ∀ {L : List Nm} {j : Nat} (hj : j < L.length), j < at_ k L -> L[j].name < k
 | x :: l, 0, _, h => by
  unfold at_ at h
  split at h
  ·rename_i hx; exact hx
  ·omega
 | x :: l, j + 1, hj, h => by
  unfold at_ at h
  split at h
  ·exact at_lt (L := l) (by simpa using hj) (by omega)
  ·omega
theorem at_ge {k : List UInt8} : ∀ {L : List Nm} (hj : at_ k L < L.length), ¬ L[at_ k L].name < k
 | x :: l, hj => by
  by_cases hx : x.name < k
  ·have e : at_ k (x :: l) = at_ k l + 1 := by show (if x.name < k then _ else _) = _; rw [if_pos hx]
   have h := at_ge (k := k) (L := l) (by rw [e] at hj; simpa using hj)
   simp only [e, List.getElem_cons_succ]
   exact h
  ·have e : at_ k (x :: l) = 0 := by show (if x.name < k then _ else _) = _; rw [if_neg hx]
   simp only [e, List.getElem_cons_zero]
   exact hx
theorem names_nodup {L : List Nm} (h : Rise L) : (L.map Nm.name).Nodup := h.imp fun {a b} h e => by subst e; exact List.lt_irrefl _ h
theorem idx_inj {L : List Nm} (h : Rise L) {j k : Nat} (hj : j < L.length) (hk : k < L.length) (e : L[j].name = L[k].name) : j = k := by
 have h := List.pairwise_iff_getElem.1 h
 rcases Nat.lt_trichotomy j k with h1 | h1 | h1
 ·have := h j k (by simpa using hj) (by simpa using hk) h1
  simp [e] at this
  exact absurd this (List.lt_irrefl _)
 ·exact h1
 ·have := h k j (by simpa using hk) (by simpa using hj) h1
  simp [e] at this
  exact absurd this (List.lt_irrefl _)
theorem get_iff {L : List Nm} (h : Rise L) {k : List UInt8} {v : Int} : get k L = some v ↔ ∃ x ∈ L, x.name = k /\ x.id = v := by
 unfold get
 constructor
 ·intro hg
  cases hf : L.find? (fun x => decide (x.name = k)) with
  | none => rw [hf] at hg; cases hg
  | some x =>
   rw [hf] at hg
   injection hg with hg
   exact ⟨x, List.mem_of_find?_eq_some hf, by simpa using List.find?_some hf, hg⟩
 ·rintro ⟨x, hx, rfl, rfl⟩
  cases hf : L.find? (fun y => decide (y.name = x.name)) with
  | none => have := List.find?_eq_none.1 hf x hx; simp at this
  | some y =>
   have h1 := List.mem_of_find?_eq_some hf
   have h2 : y.name = x.name := by simpa using List.find?_some hf
   rw [map_inj_mem (names_nodup h) h1 hx h2]; rfl
theorem get_none {L : List Nm} {k : List UInt8} : get k L = none ↔ ∀ x ∈ L, x.name ≠ k := by
 unfold get
 rw [Option.map_eq_none_iff, List.find?_eq_none]
 simp
theorem get_at {L : List Nm} (h : Rise L) {j : Nat} (hj : j < L.length) : get L[j].name L = some L[j].id := (get_iff h).2 ⟨_, List.getElem_mem hj, rfl, rfl⟩
theorem rise_ins {L : List Nm} (h : Rise L) {k : List UInt8} (hk : ∀ x ∈ L, x.name ≠ k) (v : Int) : Rise (ins k v L) := by
 unfold Rise ins
 have hpw := List.pairwise_iff_getElem.1 h
 have low : ∀ x ∈ L.take (at_ k L), x.name < k := fun x hx => by
  obtain ⟨j, hj, rfl⟩ := List.getElem_of_mem hx
  rw [List.getElem_take]
  simp at hj
  exact at_lt (by omega) (by omega)
 have high : ∀ x ∈ L.drop (at_ k L), k < x.name := fun x hx => by
  obtain ⟨j, hj, rfl⟩ := List.getElem_of_mem hx
  rw [List.getElem_drop]
  simp at hj
  have hge := at_ge (k := k) (L := L) (by omega)
  have hne : L[at_ k L].name ≠ k := hk _ (List.getElem_mem _)
  have hlt0 : k < L[at_ k L].name := by
   rcases List.le_iff_lt_or_eq.1 (List.not_lt.1 hge) with h1 | h1
   ·exact h1
   ·exact absurd h1.symm hne
  cases j with
  | zero => simpa using hlt0
  | succ j =>
   have h2 := hpw (at_ k L) (at_ k L + (j + 1)) (by simp; omega) (by simp; omega) (by omega)
   simp at h2
   exact List.lt_trans hlt0 h2
 have all := (List.take_append_drop (at_ k L) L)
 have hL : ((L.take (at_ k L)).map Nm.name ++ (L.drop (at_ k L)).map Nm.name).Pairwise (· < ·) := by rw [<- List.map_append, all]; exact h
 obtain ⟨p1, p2, p3⟩ := List.pairwise_append.1 hL
 rw [List.append_assoc, List.map_append, List.map_append, List.pairwise_append, List.pairwise_append]
 refine ⟨p1, ⟨by simp, p2, fun a ha b hb => ?_⟩, fun a ha b hb => ?_⟩
 ·obtain ⟨y, hy, rfl⟩ := List.mem_map.1 hb
  simp at ha
  rw [ha]; exact high y hy
 ·obtain ⟨x, hx, rfl⟩ := List.mem_map.1 ha
  rcases List.mem_append.1 hb with hb | hb
  ·simp at hb; rw [hb]; exact low x hx
  ·exact p3 _ (List.mem_map.2 ⟨x, hx, rfl⟩) _ hb
theorem mem_ins {L : List Nm} {k : List UInt8} {v : Int} {x : Nm} : x ∈ ins k v L ↔ x = ⟨k, v⟩ \/ x ∈ L := by
 have : x ∈ L ↔ x ∈ L.take (at_ k L) ++ L.drop (at_ k L) := by rw [List.take_append_drop]
 rw [this]
 unfold ins
 simp only [List.mem_append, List.mem_singleton]
 constructor
 ·rintro ((h | h) | h)
  ·exact .inr (.inl h)
  ·exact .inl h
  ·exact .inr (.inr h)
 ·rintro (h | h | h)
  ·exact .inl (.inr h)
  ·exact .inl (.inl h)
  ·exact .inr h
theorem ins_len (k : List UInt8) (v : Int) (L : List Nm) : (ins k v L).length = L.length + 1 := by
 have := at_le k L
 unfold ins; simp; omega
def upd (j : Nat) (v : Int) (L : List Nm) : List Nm := match L[j]? with
 | some x => L.set j ⟨x.name, v⟩
 | none => L
def del (k : List UInt8) (L : List Nm) : List Nm := L.eraseP fun x => decide (x.name = k)
def put (k : List UInt8) (v : Int) (L : List Nm) : List Nm := if (get k L).isSome = true then L.map (fun x => if x.name = k then ⟨x.name, v⟩ else x) else ins k v L
theorem put_at {L : List Nm} (h : Rise L) {j : Nat} (hj : j < L.length) (v : Int) : put L[j].name v L = L.set j ⟨L[j].name, v⟩ := by
 unfold put
 rw [get_at h hj]
 simp only [Option.isSome_some, if_true]
 refine List.ext_getElem (by simp) fun q h1 h2 => ?_
 have hq : q < L.length := by simpa using h1
 rw [List.getElem_map, List.getElem_set]
 by_cases e : j = q
 ·subst e; simp
 ·rw [if_neg e, if_neg (fun e2 => e (idx_inj h hq hj e2).symm)]
theorem put_new {L : List Nm} {k : List UInt8} (hk : get k L = none) (v : Int) : put k v L = ins k v L := by unfold put; rw [hk]; rfl
theorem put_some_names {L : List Nm} {k : List UInt8} (v : Int) : (L.map (fun x => if x.name = k then (⟨x.name, v⟩ : Nm) else x)).map Nm.name = L.map Nm.name := by
 rw [List.map_map]
 refine List.map_congr_left fun x _ => ?_
 simp only [Function.comp]
 split <;> rfl
theorem rise_put {L : List Nm} (h : Rise L) (k : List UInt8) (v : Int) : Rise (put k v L) := by
 unfold put
 cases hg : get k L with
 | none => exact rise_ins h (get_none.1 hg) v
 | some u =>
  simp only [Option.isSome_some, if_true]
  unfold Rise
  rw [put_some_names]; exact h
theorem get_put {L : List Nm} (h : Rise L) (k : List UInt8) (v : Int) (k' : List UInt8) : get k' (put k v L) = if k' = k then some v else get k' L := by
 refine KE.opt_ext fun u => ?_
 rw [get_iff (rise_put h k v)]
 unfold put
 cases hg : get k L with
 | none =>
  simp only [Option.isSome_none, Bool.false_eq_true, if_false]
  constructor
  ·rintro ⟨x, hx, rfl, rfl⟩
   rcases mem_ins.1 hx with hx | hx
   ·subst hx; simp
   ·rw [if_neg (get_none.1 hg x hx)]; exact (get_iff h).2 ⟨x, hx, rfl, rfl⟩
  ·intro hu
   by_cases e : k' = k
   ·rw [if_pos e] at hu
    injection hu with hu
    exact ⟨⟨k, v⟩, mem_ins.2 (.inl rfl), e.symm, hu⟩
   ·rw [if_neg e] at hu
    obtain ⟨x, hx, h3, h4⟩ := (get_iff h).1 hu
    exact ⟨x, mem_ins.2 (.inr hx), h3, h4⟩
 | some w =>
  simp only [Option.isSome_some, if_true]
  obtain ⟨s, hs, h1, h2⟩ := (get_iff h).1 hg
  constructor
  ·rintro ⟨x, hx, rfl, rfl⟩
   obtain ⟨y, hy, rfl⟩ := List.mem_map.1 hx
   by_cases e : y.name = k
   ·simp [e]
   ·simp [e]; exact (get_iff h).2 ⟨y, hy, rfl, rfl⟩
  ·intro hu
   by_cases e : k' = k
   ·rw [if_pos e] at hu
    injection hu with hu
    exact ⟨⟨s.name, v⟩, List.mem_map.2 ⟨s, hs, by rw [if_pos h1]⟩, h1.trans e.symm, hu⟩
   ·rw [if_neg e] at hu
    obtain ⟨x, hx, h3, h4⟩ := (get_iff h).1 hu
    have hne : ¬ x.name = k := fun e2 => e (h3.symm.trans e2)
    exact ⟨x, List.mem_map.2 ⟨x, hx, by rw [if_neg hne]⟩, h3, h4⟩
theorem put_len (k : List UInt8) (v : Int) (L : List Nm) : (put k v L).length = if (get k L).isSome = true then L.length else L.length + 1 := by
 unfold put
 split
 ·simp
 ·exact ins_len _ _ _
def Sim (e : List (KE Int)) (L : List Nm) : Prop := ∀ k, get k L = KE.get k e
theorem Sim.names {clock : Nat} {e : List (KE Int)} {L : List Nm} (h : Sim e L) (ho : KE.Ok clock e) (hr : Rise L) : sortS (e.map KE.key) = L.map Nm.name := by
 refine sorted_strs hr ho.keys fun x => ?_
 have hx := h x
 constructor
 ·intro hm
  obtain ⟨y, hy, rfl⟩ := List.mem_map.1 hm
  rw [(KE.get_iff ho).2 ⟨y, hy, rfl, rfl⟩] at hx
  obtain ⟨z, hz, h1, _⟩ := (get_iff hr).1 hx
  exact List.mem_map.2 ⟨z, hz, h1⟩
 ·intro hm
  obtain ⟨y, hy, rfl⟩ := List.mem_map.1 hm
  rw [(get_iff hr).2 ⟨y, hy, rfl, rfl⟩] at hx
  obtain ⟨z, hz, h1, _⟩ := (KE.get_iff ho).1 hx.symm
  exact List.mem_map.2 ⟨z, hz, h1⟩
theorem Sim.len {clock : Nat} {e : List (KE Int)} {L : List Nm} (h : Sim e L) (ho : KE.Ok clock e) (hr : Rise L) : e.length = L.length := by
 have := congrArg List.length (h.names ho hr)
 simpa [sortS, List.length_mergeSort] using this
theorem Sim.put {clock : Nat} {e : List (KE Int)} {L : List Nm} (h : Sim e L) (ho : KE.Ok clock e) (hr : Rise L) (k : List UInt8) (v : Int) : Sim (KE.put k clock v e) (put k v L) := fun k' => by
 rw [get_put hr, KE.get_put ho, h k']
end Nm
end Go.Proofs.YtdfgljojemmlcaaGreat.Ax
namespace Go.Proofs.YtdfgljojemmlcaaGreat.Ax
open Go.RowKit Go By
set_option maxRecDepth 10000
structure NlAt (lo : Nat) (h : List (List AV)) (i b most : Nat) (L : List Nm) : Prop where
 top : h[i]? = some [lisV 2 b L, .v (.int .i64 (most : Int))]
 list : L ≠ [] -> h[b]? = some (enc nmC L).flatten
 low : lo <= i /\ lo <= b
 apart : i ≠ b
 lt : ltLL h.length h
theorem NlAt.move {lo : Nat} {h : List (List AV)} {i b most : Nat} {L : List Nm} (hr : NlAt lo h i b most L) {h' : List (List AV)} (hi : h'[i]? = h[i]?) (hb : L ≠ [] -> h'[b]? = h[b]?) (hlt : ltLL h'.length h') : NlAt lo h' i b most L :=
 ⟨hi.trans hr.top, fun hne => (hb hne).trans (hr.list hne), hr.low, hr.apart, hlt⟩
theorem NlAt.app {lo : Nat} {h : List (List AV)} {i b most : Nat} {L : List Nm} (hr : NlAt lo h i b most L) (xs : List (List AV)) (hx : ltLL (h.length + xs.length) xs) : NlAt lo (h ++ xs) i b most L :=
 hr.move (List.getElem?_append_left (List.getElem?_eq_some_iff.1 hr.top).1) (fun hne => List.getElem?_append_left (List.getElem?_eq_some_iff.1 (hr.list hne)).1) (by rw [ltLL_append, List.length_append]; exact ⟨ltLL_mono (Nat.le_add_right _ _) hr.lt, hx⟩)
theorem NlAt.el {lo : Nat} {h : List (List AV)} {i b most : Nat} {L : List Nm} (hr : NlAt lo h i b most L) {j : Nat} (hj : j < L.length) : h[i]? = some [.bsl b 0 2 L.length, .v (.int .i64 (most : Int))] /\ h[b]? = some (enc nmC L).flatten /\ (enc nmC L).flatten[j * 2]? = some (.v (.string (strB L[j].name))) /\ (enc nmC L).flatten[j * 2 + 1]? = some (.v (.int .i64 L[j].id)) /\ (enc nmC L).flatten.length = L.length * 2 := by
 have hne : L ≠ [] := fun e => by rw [e] at hj; cases hj
 have h1 := hr.top
 rw [lisV_some _ _ hne] at h1
 have e0 := nmE.at_ hj (q := 0) (by omega)
 have e1 := nmE.at_ hj (q := 1) (by omega)
 rw [Nat.add_zero] at e0
 exact ⟨h1, hr.list hne, e0, e1, nmE.flat_len _⟩
section
variable {lo : Nat} {h : List (List AV)} {i b most : Nat} {L : List Nm}
def DoesN (f : FuncId) (args : List AV) (lo : Nat) (h : List (List AV)) (i b most : Nat) (L : List Nm) (r : AV) (L' : List Nm) : Prop :=
 ∃ h' b', Contract Tryz.prog f args h r h' [i, b] /\ NlAt lo h' i b' most L' /\ (b' = b \/ h.length <= b') /\ h.length <= h'.length /\ (∀ q < h.length, q ≠ i -> q ≠ b -> h'[q]? = h[q]?) /\ (plainH h -> plainH h')
theorem NlAt.own (hr : NlAt lo h i b most L) {H : List (List AV)} {b' : Nat} {L' : List Nm} (hF : OwnL nmC 2 h H b' L') (hb : L' = [] -> b' = b) : NlAt lo (H.set i [lisV 2 b' L', .v (.int .i64 (most : Int))]) i b' most L' /\ (b' = b \/ h.length <= b') /\ h.length <= (H.set i [lisV 2 b' L', .v (.int .i64 (most : Int))]).length /\ (∀ q < h.length, q ≠ i -> q ≠ b -> (H.set i [lisV 2 b' L', .v (.int .i64 (most : Int))])[q]? = h[q]?) /\ (plainH h -> plainH (H.set i [lisV 2 b' L', .v (.int .i64 (most : Int))])) := by
 have hi := (List.getElem?_eq_some_iff.1 hr.top).1
 have hl := hF.len
 have hb2 : b' = b \/ h.length <= b' := by
  by_cases e : L' = []
  ·exact .inl (hb e)
  ·exact .inr (hF.own e).1
 have hne : i ≠ b' := by
  rcases hb2 with e | e
  ·rw [e]; exact hr.apart
  ·omega
 refine ⟨⟨List.getElem?_set_self (by omega), fun e => ?_, ⟨hr.low.1, ?_⟩, hne, ?_⟩, hb2, by simp; omega, fun q hq n1 _ => ?_, fun hp => plainH_set (hF.plain hp) (fun c hc => ?_) _⟩
 ·rw [List.getElem?_set_ne hne]; exact (hF.own e).2
 ·rcases hb2 with e | e
  ·rw [e]; exact hr.low.2
  ·have := hr.low.1; omega
 ·rw [List.length_set]
  refine ltLL_set hF.lt ⟨lisV_lt fun e => (List.getElem?_eq_some_iff.1 (hF.own e).2).1, trivial, trivial⟩
 ·rw [List.getElem?_set_ne (Ne.symm n1)]; exact hF.ext q hq
 ·simp at hc
  rcases hc with rfl | rfl
  ·exact lisV_id _ _ _
  ·rfl
def Nm.full (most : Nat) (k : List UInt8) (L : List Nm) : Bool := !(Nm.get k L).isSome && decide (most <= L.length)
def Nm.set (most : Nat) (k : List UInt8) (v : Int) (L : List Nm) : List Nm := if Nm.full most k L = true then L else Nm.put k v L
def Nm.err (most : Nat) (k : List UInt8) (L : List Nm) : Int := if Nm.full most k L = true then 6 else 0
theorem nset_at (hr : NlAt lo h i b most L) (hs : Nm.Rise L) (hn : L.length <= 1000000) {j : Nat} (hj : j < L.length) (v : Int) : DoesN 24 [.box i 0, .v (.string (strB L[j].name)), .v (.int .i64 v)] lo h i b most L (.tup [.v (.int .i64 L[j].id), .v (.int .i64 0)]) (Nm.put L[j].name v L) := by
 have hi := (List.getElem?_eq_some_iff.1 hr.top).1
 obtain ⟨f1, f2, f3, f4, f5⟩ := hr.el hj
 have hb := (List.getElem?_eq_some_iff.1 f2).1
 have hset := nmE.set hj (q := 1) (by omega) (.v (.int .i64 v)) (⟨L[j].name, v⟩ : Nm) rfl
 rw [Nm.put_at hs hj]
 have hLne : L ≠ [] := fun e => by rw [e] at hj; cases hj
 have hL' : L.set j (⟨L[j].name, v⟩ : Nm) ≠ [] := fun e => hLne (List.eq_nil_of_length_eq_zero (by have := congrArg List.length e; simpa using this))
 refine ⟨h.set b (enc nmC (L.set j ⟨L[j].name, v⟩)).flatten, b, ?_, ⟨?_, fun _ => List.getElem?_set_self hb, hr.low, hr.apart, ?_⟩, .inl rfl, by simp, fun q _ _ hq => List.getElem?_set_ne (Ne.symm hq), fun hp => plainH_set hp (nmE.flat_plain _) _⟩
 ·refine contract_of k24 mixed (by simp [c24]) fun hh hargs => ?_
  simp [c24]
  refine xloop_ok (D := Nat) (fun q => ⟨[(0, .box i 0), (1, .v (.string (strB L[j].name))), (2, .v (.int .i64 v)), (8, .v (.int .i64 (q : Int)))], [], h, []⟩) (fun q => q <= j) (fun q => j - q) 0 (by omega) ?_ ?_
  ·simp [Leq, hh, leqH_take, hi]
   done
  ·intro q hq
   have hlt : q < L.length := by omega
   obtain ⟨e1, e2, e3, e4, e5⟩ := hr.el hlt
   have hw : IntKind.i64.wrap ((q : Int) + 1) = (q : Int) + 1 := wrap64 (by omega) (by omega)
   by_cases e : L[q].name = L[j].name
   ·have := Nm.idx_inj hs hlt hj e
    subst this
    have hsum := nmE.sum L
    have hle : q * 2 + 1 + 1 <= L.length * 2 := by omega
    have e3' : ∀ h, (enc nmC L).flatten[q * 2]'h = .v (.string (strB L[q].name)) := fun h => by rw [List.getElem?_eq_getElem h] at e3; injection e3
    have e4' : ∀ h, (enc nmC L).flatten[q * 2 + 1]'h = .v (.int .i64 L[q].id) := fun h => by rw [List.getElem?_eq_getElem h] at e4; injection e4
    simp [e1, e2, e3, e4, e3', e4', hlt, strB_toList, hset, hsum, hle, hh]
    exact .inl (nmE.flat_lt _ _)
   ·simp [e1, e2, e3, e4, hlt, strB_toList, e, hw]
    have hqj : q ≠ j := fun e2 => e (by subst e2; rfl)
    refine ⟨q + 1, by omega, by omega, ?_⟩
    ·simp [Leq, hh, leqH_take, hi]
 ·rw [List.getElem?_set_ne (Ne.symm hr.apart), f1, lisV_some _ _ hL', List.length_set]
 ·rw [List.length_set]; exact ltLL_set hr.lt (nmE.flat_lt _ _)
set_option maxHeartbeats 2000000 in
theorem nset_no (hr : NlAt lo h i b most L) (hn : L.length <= 1000000) {k : List UInt8} (hk : Nm.get k L = none) (v : Int) : DoesN 24 [.box i 0, .v (.string (strB k)), .v (.int .i64 v)] lo h i b most L (.tup [.v (.int .i64 0), .v (.int .i64 (Nm.err most k L))]) (Nm.set most k v L) := by
 have hi := (List.getElem?_eq_some_iff.1 hr.top).1
 have hno := Nm.get_none.1 hk
 have hlenE : ∀ j, j < L.length -> ¬ j = L.length := fun j h => by omega
 by_cases hfull : most <= L.length
 ·have hf : Nm.full most k L = true := by unfold Nm.full; rw [hk]; simp [hfull]
  have hset : Nm.set most k v L = L := by unfold Nm.set; rw [if_pos hf]
  have herr : Nm.err most k L = 6 := by unfold Nm.err; rw [if_pos hf]
  rw [hset, herr]
  refine ⟨h, b, ?_, hr, .inl rfl, Nat.le_refl _, fun _ _ _ _ => rfl, fun h => h⟩
  refine contract_of k24 mixed (by simp [c24]) fun hh hargs => ?_
  simp [c24]
  refine xloop_ok (D := Nat) (fun q => ⟨[(0, .box i 0), (1, .v (.string (strB k))), (2, .v (.int .i64 v)), (8, .v (.int .i64 (q : Int)))], [], h, []⟩) (fun q => q <= L.length) (fun q => L.length - q) 0 (by omega) ?_ ?_
  ·simp [Leq, hh, leqH_take, hi]
   done
  ·intro q hq
   by_cases hlt : q < L.length
   ·obtain ⟨e1, e2, e3, e4, e5⟩ := hr.el hlt
    have hw : IntKind.i64.wrap ((q : Int) + 1) = (q : Int) + 1 := wrap64 (by omega) (by omega)
    have e := hno _ (List.getElem_mem hlt)
    simp [e1, e2, e3, e4, hlt, strB_toList, e, hw]
    refine ⟨q + 1, by omega, by omega, ?_⟩
    simp [Leq, hh, leqH_take, hi]
   ·have : q = L.length := by omega
    subst this
    have h1 := hr.top
    by_cases hl : L = []
    ·subst hl
     have hm : most = 0 := by simpa using hfull
     simp [lisV, hm] at h1
     simp [h1, hh]
     done
    ·rw [lisV_some _ _ hl] at h1
     simp [h1, hh, hfull]
     done
 ·have hf : Nm.full most k L = false := by unfold Nm.full; rw [hk]; simp; omega
  have hset : Nm.set most k v L = Nm.ins k v L := by unfold Nm.set; rw [if_neg (by simp [hf]), Nm.put_new hk]
  have herr : Nm.err most k L = 0 := by unfold Nm.err; rw [if_neg (by simp [hf])]
  rw [hset, herr]
  have hp := Nm.at_le k L
  obtain ⟨p, hpp⟩ : ∃ p, p = Nm.at_ k L := ⟨_, rfl⟩
  have hins : Nm.ins k v L = L.take p ++ [⟨k, v⟩] ++ L.drop p := by rw [hpp]; rfl
  have plow : ∀ q (hq : q < L.length), q < p -> L[q].name < k := fun q hq h => Nm.at_lt hq (by rw [<- hpp]; exact h)
  have phigh : ∀ (hq : p < L.length), ¬ L[p].name < k := fun hq => by subst hpp; exact Nm.at_ge hq
  rw [<- hpp] at hp
  rw [hins]
  have F0 : OwnL nmC 2 h h b ([] : List Nm) := OwnL.nil hr.lt b
  have F1 := F0.ap nmE (L.take p)
  have F2 := F1.ap nmE [⟨k, v⟩]
  have F3 := F2.ap nmE (L.drop p)
  simp only [List.nil_append] at F1 F2 F3
  obtain ⟨g1, g2, g3, g4, g5⟩ := hr.own F3 (by simp)
  have q3 := F3.ext i hi
  have w2 : ∀ q ∈ apW (apB h b (L.take p)) (L.take p) [(⟨k, v⟩ : Nm)] [], h.length <= q := fun q hq => by
   rcases apW_mem hq with h1 | ⟨h1, h2⟩
   ·cases h1
   ·rw [h2]; exact (F1.own h1).1
  obtain ⟨W2, hW2⟩ : ∃ W, W = apW (apB h b (L.take p)) (L.take p) [(⟨k, v⟩ : Nm)] [] := ⟨_, rfl⟩
  rw [<- hW2] at w2
  obtain ⟨H1, hH1⟩ : ∃ H, H = apH nmC h b [] (L.take p) := ⟨_, rfl⟩
  obtain ⟨b1, hb1⟩ : ∃ b1, b1 = apB h b (L.take p) := ⟨_, rfl⟩
  obtain ⟨H2, hH2⟩ : ∃ H, H = apH nmC H1 b1 (L.take p) [(⟨k, v⟩ : Nm)] := ⟨_, rfl⟩
  obtain ⟨b2, hb2⟩ : ∃ b2, b2 = apB H1 b1 [(⟨k, v⟩ : Nm)] := ⟨_, rfl⟩
  obtain ⟨H3, hH3⟩ : ∃ H, H = apH nmC H2 b2 (L.take p ++ [(⟨k, v⟩ : Nm)]) (L.drop p) := ⟨_, rfl⟩
  obtain ⟨b3, hb3⟩ : ∃ b3, b3 = apB H2 b2 (L.drop p) := ⟨_, rfl⟩
  obtain ⟨W3, hW3⟩ : ∃ W, W = apW b2 (L.take p ++ [(⟨k, v⟩ : Nm)]) (L.drop p) W2 := ⟨_, rfl⟩
  simp only [<- hH1, <- hb1, <- hH2, <- hb2, <- hH3, <- hb3] at F1 F2 F3 g1 g2 g3 g4 g5 q3 hW2
  have w3 : ∀ q ∈ W3, h.length <= q := fun q hq => by
   rw [hW3] at hq
   rcases apW_mem hq with h1 | ⟨h1, h2⟩
   ·exact w2 q h1
   ·rw [h2]; exact (F2.own h1).1
  have i2 : i ∉ W2 := fun h1 => by have := w2 i h1; omega
  have i3 : ∀ n, i ∉ W3.take n := fun n h1 => by have := w3 i (List.mem_of_mem_take h1); omega
  refine ⟨_, _, ?_, g1, g2, g3, g4, g5⟩
  refine contract_of k24 mixed (by simp [c24]) fun hh hargs => ?_
  simp [c24]
  refine xloop_ok (D := Nat) (fun q => ⟨[(0, .box i 0), (1, .v (.string (strB k))), (2, .v (.int .i64 v)), (8, .v (.int .i64 (q : Int)))], [], h, []⟩) (fun q => q <= L.length) (fun q => L.length - q) 0 (by omega) ?_ ?_
  ·simp [Leq, hh, leqH_take, hi]
   done
  ·intro q hq
   by_cases hlt : q < L.length
   ·obtain ⟨e1, e2, e3, e4, e5⟩ := hr.el hlt
    have hw : IntKind.i64.wrap ((q : Int) + 1) = (q : Int) + 1 := wrap64 (by omega) (by omega)
    have e := hno _ (List.getElem_mem hlt)
    simp [e1, e2, e3, e4, hlt, strB_toList, e, hw]
    refine ⟨q + 1, by omega, by omega, ?_⟩
    simp [Leq, hh, leqH_take, hi]
   ·have : q = L.length := by omega
    subst this
    have h1 := hr.top
    have hfin : ∀ d : List (Nat × AV), True := fun _ => trivial
    by_cases hl : L = []
    ·subst hl
     have hm : ¬ most = 0 := by simpa using hfull
     simp [lisV] at h1
     have hp0 : p = 0 := by simpa using hp
     subst hp0
     have hx1 : ∀ nul room, IsRows nmC h 2 (.sl 2 [] nul room) (([] : List Nm).take 0) := fun nul room => isRows_sl rfl
     have hx3 : ∀ nul room, IsRows nmC H2 2 (.sl 2 [] nul room) (([] : List Nm).drop 0) := fun nul room => isRows_sl rfl
     simp [h1, hm]
     refine xloop_ok (D := Unit) (fun _ => ⟨[(0, .box i 0), (1, .v (.string (strB k))), (2, .v (.int .i64 v)), (10, .v (.int .i64 0))], [], h, []⟩) (fun _ => True) (fun _ => 0) () trivial ?_ ?_
     ·simp [Leq, hh, leqH_take, hi]
      done
     ·intro _ _
      simp only [List.take_nil, List.drop_nil, List.nil_append, List.append_nil] at hH1 hb1 hH2 hb2 hH3 hb3 hW2 hW3 hx1 hx3 F1 F2 F3 g1 q3
      simp [h1]
      refine ⟨?_, ?_⟩
      ·refine .inl (ap_run nmE (L := ([] : List Nm)) (b := b) (fun h => absurd rfl h) (hx1 _ _) (by simp) (by simp) ?_)
       simp [<- hH1, <- hb1]
       refine ap_run nmE (X := [(⟨k, v⟩ : Nm)]) (fun hne => (F1.own hne).2) (isRows_sl rfl) (by simp) (by simp) ?_
       simp [<- hH2, <- hb2, <- hW2]
       refine ⟨i2, ap_run nmE (fun hne => (F2.own hne).2) (hx3 _ _) (by simp) (by simp) ?_⟩
       simp [<- hH3, <- hb3, <- hW3, i3, q3, h1]
       exact ⟨F3.len, by have := g1.lt; simpa using this, fun a h1 h2 => by have := w3 a h1; omega⟩
      ·refine .inl (ap_run nmE (L := ([] : List Nm)) (b := b) (fun h => absurd rfl h) (hx1 _ _) (by simp) (by simp) ?_)
       simp [<- hH1, <- hb1]
       refine ap_run nmE (X := [(⟨k, v⟩ : Nm)]) (fun hne => (F1.own hne).2) (isRows_sl rfl) (by simp) (by simp) ?_
       simp [<- hH2, <- hb2, <- hW2]
       refine ⟨i2, ap_run nmE (fun hne => (F2.own hne).2) (hx3 _ _) (by simp) (by simp) ?_⟩
       simp [<- hH3, <- hb3, <- hW3, i3, q3, h1]
       exact ⟨F3.len, by have := g1.lt; simpa using this, fun a h1 h2 => by have := w3 a h1; omega⟩
    ·rw [lisV_some _ _ hl] at h1
     simp [h1, hfull]
     refine xloop_ok (D := Nat) (fun q => ⟨[(0, .box i 0), (1, .v (.string (strB k))), (2, .v (.int .i64 v)), (10, .v (.int .i64 (q : Int)))], [], h, []⟩) (fun q => q <= p) (fun q => p - q) 0 (by omega) ?_ ?_
     ·simp [Leq, hh, leqH_take, hi]
      done
     ·intro q hq
      by_cases hqp : q < p
      ·have hlt : q < L.length := by omega
       obtain ⟨e1, e2, e3, e4, e5⟩ := hr.el hlt
       have hw : IntKind.i64.wrap ((q : Int) + 1) = (q : Int) + 1 := wrap64 (by omega) (by omega)
       have e := plow q hlt hqp
       simp [e1, e2, e3, e4, hlt, strB_toList, bLess_eq, e, hw]
       refine ⟨q + 1, by omega, by omega, ?_⟩
       simp [Leq, hh, leqH_take, hi]
      ·have : q = p := by omega
       subst this
       have hb0 := hr.list hl
       have hx1 : IsRows nmC h 2 (.bsl b 0 2 q) (L.take q) := isRows_bsl nmE hb0 (lo := 0) (hi := q) (Nat.zero_le _) (by omega) (by omega) (by omega)
       have hx3 : IsRows nmC H2 2 (.bsl b (q * 2) 2 (L.length - q)) (L.drop q) := by
        have h2b := (F2.ext b (List.getElem?_eq_some_iff.1 hb0).1).trans hb0
        have := isRows_bsl nmE h2b (lo := q) (hi := L.length) (by omega) (Nat.le_refl _) (off := q * 2) (n := L.length - q) rfl rfl
        rwa [List.take_length] at this
       by_cases hlt : q < L.length
       ·obtain ⟨e1, e2, e3, e4, e5⟩ := hr.el hlt
        have e := phigh hlt
        simp [e1, e2, e3, e4, hlt, strB_toList, bLess_eq, e]
        refine ⟨by omega, ?_, ?_⟩
        ·refine .inl (ap_run nmE (L := ([] : List Nm)) (b := b) (fun h => absurd rfl h) hx1 (by simp; omega) (by simp; omega) ?_)
         simp [<- hH1, <- hb1]
         refine ap_run nmE (X := [(⟨k, v⟩ : Nm)]) (fun hne => (F1.own hne).2) (isRows_sl rfl) (by simp; omega) (by simp; omega) ?_
         simp [<- hH2, <- hb2, <- hW2]
         refine ⟨i2, ap_run nmE (fun hne => (F2.own hne).2) hx3 (by simp; omega) (by simp; omega) ?_⟩
         simp [<- hH3, <- hb3, <- hW3, i3, q3, h1]
         exact ⟨F3.len, by have := g1.lt; simpa using this, fun a h1 h2 => by have := w3 a h1; omega⟩
        ·refine .inl (ap_run nmE (L := ([] : List Nm)) (b := b) (fun h => absurd rfl h) hx1 (by simp; omega) (by simp; omega) ?_)
         simp [<- hH1, <- hb1]
         refine ap_run nmE (X := [(⟨k, v⟩ : Nm)]) (fun hne => (F1.own hne).2) (isRows_sl rfl) (by simp; omega) (by simp; omega) ?_
         simp [<- hH2, <- hb2, <- hW2]
         refine ⟨i2, ap_run nmE (fun hne => (F2.own hne).2) hx3 (by simp; omega) (by simp; omega) ?_⟩
         simp [<- hH3, <- hb3, <- hW3, i3, q3, h1]
         exact ⟨F3.len, by have := g1.lt; simpa using this, fun a h1 h2 => by have := w3 a h1; omega⟩
       ·have hqe : q = L.length := by omega
        have hqi : (q : Int) = (L.length : Int) := by omega
        have hqn : ¬ (q : Int) < (L.length : Int) := by omega
        simp [h1, hqn]
        refine ⟨by omega, ?_, ?_⟩
        ·refine .inl (ap_run nmE (L := ([] : List Nm)) (b := b) (fun h => absurd rfl h) hx1 (by simp; omega) (by simp; omega) ?_)
         simp [<- hH1, <- hb1]
         refine ap_run nmE (X := [(⟨k, v⟩ : Nm)]) (fun hne => (F1.own hne).2) (isRows_sl rfl) (by simp; omega) (by simp; omega) ?_
         simp [<- hH2, <- hb2, <- hW2]
         refine ⟨i2, ap_run nmE (fun hne => (F2.own hne).2) hx3 (by simp; omega) (by simp; omega) ?_⟩
         simp [<- hH3, <- hb3, <- hW3, i3, q3, h1]
         exact ⟨F3.len, by have := g1.lt; simpa using this, fun a h1 h2 => by have := w3 a h1; omega⟩
        ·refine .inl (ap_run nmE (L := ([] : List Nm)) (b := b) (fun h => absurd rfl h) hx1 (by simp; omega) (by simp; omega) ?_)
         simp [<- hH1, <- hb1]
         refine ap_run nmE (X := [(⟨k, v⟩ : Nm)]) (fun hne => (F1.own hne).2) (isRows_sl rfl) (by simp; omega) (by simp; omega) ?_
         simp [<- hH2, <- hb2, <- hW2]
         refine ⟨i2, ap_run nmE (fun hne => (F2.own hne).2) hx3 (by simp; omega) (by simp; omega) ?_⟩
         simp [<- hH3, <- hb3, <- hW3, i3, q3, h1]
         exact ⟨F3.len, by have := g1.lt; simpa using this, fun a h1 h2 => by have := w3 a h1; omega⟩
end
theorem nnew_c {most : Nat} (h1 : 1 <= most) (h2 : most <= 4096) (h : List (List AV)) : Contract Tryz.prog 20 [.v (.int .i64 (most : Int))] h (.tup [.box h.length 0, .v (.int .i64 0)]) (h ++ [[.sl 0 [] (some true) .exact, .v (.int .i64 (most : Int))]]) [] := by
 refine contract_of k20 mixed (by simp [c20]) fun hh hargs => ?_
 have n1 : ¬ (most : Int) < 1 := by omega
 have n2 : ¬ (most : Int) > 4096 := by omega
 have hl := ltLL_mono (Nat.le_add_right h.length 1) hh
 simp [c20, n1, n2, hl]
 done
section
variable {lo : Nat} {h : List (List AV)} {i b most : Nat} {L : List Nm}
theorem nset_c (hr : NlAt lo h i b most L) (hs : Nm.Rise L) (hn : L.length <= 1000000) (k : List UInt8) (v : Int) : DoesN 24 [.box i 0, .v (.string (strB k)), .v (.int .i64 v)] lo h i b most L (.tup [.v (.int .i64 ((Nm.get k L).getD 0)), .v (.int .i64 (Nm.err most k L))]) (Nm.set most k v L) := by
 cases hk : Nm.get k L with
 | none => exact nset_no hr hn hk v
 | some u =>
  obtain ⟨x, hx, h1, h2⟩ := (Nm.get_iff hs).1 hk
  obtain ⟨j, hj, rfl⟩ := List.getElem_of_mem hx
  have hf : Nm.full most k L = false := by unfold Nm.full; rw [hk]; rfl
  have e1 : Nm.set most k v L = Nm.put k v L := by unfold Nm.set; rw [if_neg (by simp [hf])]
  have e2 : Nm.err most k L = 0 := by unfold Nm.err; rw [if_neg (by simp [hf])]
  rw [e1, e2]
  subst h1 h2
  exact nset_at hr hs hn hj v
end
structure Both (T : Tb) (L : List Nm) : Prop where
 ok : TbOk T
 rise : Nm.Rise L
 sim : Nm.Sim T.e L
theorem Both.get {T : Tb} {L : List Nm} (h : Both T L) (k : List UInt8) : Nm.get k L = T.get k := h.sim k
theorem Both.len {T : Tb} {L : List Nm} (h : Both T L) : T.e.length = L.length := h.sim.len h.ok.ok h.rise
theorem Both.few {T : Tb} {L : List Nm} (h : Both T L) : L.length <= 4096 := by rw [<- h.len]; exact Nat.le_trans h.ok.len h.ok.most.2
theorem Both.full {T : Tb} {L : List Nm} (h : Both T L) (k : List UInt8) : Nm.full T.most k L = T.full k := by unfold Nm.full Tb.full; rw [h.get, h.len]
theorem Both.set {T : Tb} {L : List Nm} (h : Both T L) (k : List UInt8) (v : Int) : Both (T.set k v) (Nm.set T.most k v L) := by
 refine ⟨h.ok.set k v, ?_, ?_⟩
 ·unfold Nm.set
  split
  ·exact h.rise
  ·exact Nm.rise_put h.rise k v
 ·unfold Nm.set Tb.set
  rw [h.full]
  split
  ·exact h.sim
  ·exact h.sim.put h.ok.ok h.rise k v
theorem both_new (h : List (List AV)) {most : Nat} (h1 : 1 <= most) (h2 : most <= 4096) : Both (newT h most) [] := ⟨newT_ok h h1 h2, List.Pairwise.nil, fun _ => rfl⟩
def opsOf (l : List En) : List To := l.flatMap En.good
def stepG (name : List UInt8) (g : Option Int) (op : To) : Option Int := if op.name = name then (if op.set = true then some op.id else none) else g
def lookO (name : List UInt8) (g : Option Int) (ops : List To) : Option Int := ops.foldl (stepG name) g
theorem lookO_snoc (name : List UInt8) (g : Option Int) (ops : List To) (op : To) : lookO name g (ops ++ [op]) = stepG name (lookO name g ops) op := by
 unfold lookO; rw [List.foldl_append]; rfl
theorem take_snoc {α : Type} {l : List α} {j : Nat} (hj : j < l.length) : l.take (j + 1) = l.take j ++ [l[j]] := by rw [List.take_succ_eq_append_getElem hj]
def Tb.errO (T : Tb) (op : To) : Int := if op.set = true then T.err op.name else 0
end Go.Proofs.YtdfgljojemmlcaaGreat.Ax
