/- A client's names as they will be: what becomes of names, one behind the other. -/
import Derived.Test.YtphgbfemigcalaaQAxMs
import Derived.Test.YtphgbfemigcalaaQAxTc
/- Finding by a function in a variable's elements, over values without memory. No program is named here. -/
namespace Go.Proofs.Ytphgbfemigcalaa.Ax
open Go.RowKit Go By
set_option linter.unusedSimpArgs false
set_option maxRecDepth 10000

theorem flat_len2 {α : Type} {c : α → List AV} {k : Nat} (hc : ∀ x, (c x).length = k) : ∀ xs : List α, (enc c xs).flatten.length = xs.length * k
  | [] => by simp
  | x :: xs => by rw [enc_cons, List.flatten_cons, List.length_append, hc, flat_len2 hc xs, List.length_cons, Nat.succ_mul]; omega
theorem flat_one {α : Type} {c : α → List AV} {k : Nat} (hc : ∀ x, (c x).length = k) : ∀ (xs : List α) (j : Nat) (hj : j < xs.length), ((enc c xs).flatten.drop (j * k)).take k = c xs[j]
  | x :: xs, 0, _ => by rw [enc_cons, List.flatten_cons, Nat.zero_mul, List.drop_zero, List.take_left' (hc x)]; rfl
  | x :: xs, j + 1, hj => by
    have hj' : j < xs.length := by simpa using hj
    rw [enc_cons, List.flatten_cons, show (j + 1) * k = (c x).length + j * k by rw [hc, Nat.succ_mul]; omega, List.drop_append, List.drop_of_length_le (by omega), List.nil_append, show (c x).length + j * k - (c x).length = j * k by omega, flat_one hc xs j hj']
    rfl
theorem flat_fit {α : Type} {c : α → List AV} {k : Nat} (hc : ∀ x, (c x).length = k) (xs : List α) {j : Nat} (hj : j < xs.length) : j * k + k ≤ (enc c xs).flatten.length := by
  rw [flat_len2 hc]
  have : (j + 1) * k ≤ xs.length * k := Nat.mul_le_mul_right _ hj
  rw [Nat.succ_mul] at this; exact this
theorem indexB_any {P : Program} (hm : P.follows .mixedOrders = true) {f g : FuncId} {k : Nat} (hf : cfun P f = some (indexN k)) {α : Type} (c : α → List AV) (p : α → Bool) (xs : List α) (cap : List AV) (b : Nat) (h : List (List AV)) (hb : h[b]? = some (enc c xs).flatten) (hcap : ∀ c ∈ cap, c.idOf = none) (hc : ∀ x, (c x).length = k) (hu : ∀ x, (c x).map AV.unown = c x)
    (hg : ∀ x, x ∈ xs → Contract P g ((.agg (c x)) :: cap) h (.v (.bool (p x))) h []) (hl : xs.length ≤ 140737488355328) :
    Contract P f [.bsl b 0 k xs.length, .fn (.func g) [] cap] h (.v (.int .i64 (idxI p xs))) h [] := by
  have hbl := heap_lt hb
  refine contract_of hf hm (by simp [indexN]) fun hh hargs => ?_
  simp at hargs
  simp [indexN]
  refine xloop_ok (D := Nat) (fun j => ⟨[(0, .bsl b 0 k xs.length), (1, .fn (.func g) [] cap), (7, .v (.int .i64 xs.length)), (8, .v (.int .i64 j))], [], h, []⟩) (fun j => j ≤ xs.length ∧ ∀ x ∈ xs.take j, p x = false) (fun j => xs.length - j) 0 (by simp) ?_ ?_
  · simp [Leq, hh, hargs, hbl]
  · rintro j ⟨hj, hp⟩
    simp
    refine xwp_cond_of (decide (j < xs.length)) (by simp) (fun hlt => ?_) (fun hge => ?_)
    · simp at hlt
      have hq : ∀ y ∈ (.agg (c xs[j])) :: cap, y.idOf = none := by simpa using hcap
      have hw : IntKind.i64.wrap ((j : Int) + 1) = (j : Int) + 1 := wrap64 (by omega) (by omega)
      have hone := flat_one hc xs j hlt
      have hfit := flat_fit hc xs hlt
      generalize (enc c xs).flatten = F at *
      simp [hlt, hb, hone, hfit, hu]
      refine ⟨hcap, xcall_self hq (hg xs[j] (List.getElem_mem _)) ?_⟩
      simp [idsOf_none hq]
      refine xwp_cond_of (p xs[j]) (by simp) (fun ht => ?_) (fun hf' => ?_)
      · simp [hh, idxI_of hlt hp ht]
      · simp
        refine ⟨j + 1, ⟨by omega, take_none hlt hp hf'⟩, by omega, ?_⟩
        simp [Leq, hh, hargs, hw, hbl]
    · simp at hge
      have hj' : j = xs.length := by omega
      subst hj'
      simp at hp
      simp [hh, idxI_none hp]
/-! ### A variable that is not written any more -/
theorem chunk_flat {α : Type} {c : α → List AV} {k : Nat} (hc : ∀ x, (c x).length = k) : ∀ xs : List α, chunk k xs.length (enc c xs).flatten = enc c xs
  | [] => rfl
  | x :: xs => by
    rw [List.length_cons, r_chunk_succ, enc_cons, List.flatten_cons, List.take_left' (hc x), List.drop_left' (hc x), chunk_flat hc xs]
theorem frz_all {α : Type} {c : α → List AV} {k : Nat} (hc : ∀ x, (c x).length = k) (xs : List α) (i n : Nat) (hn : n = xs.length) : (AV.bsl i 0 k n).frz i (enc c xs).flatten = .sl k (enc c xs) (some false) .no := by
  subst hn
  have hl := flat_len2 hc xs
  show (if i = i ∧ 0 + xs.length * k ≤ (enc c xs).flatten.length then AV.sl k (chunk k xs.length (((enc c xs).flatten.drop 0).take (xs.length * k))) (some false) .no else AV.bsl i 0 k xs.length) = _
  rw [if_pos ⟨rfl, by rw [hl]; omega⟩, List.drop_zero, List.take_of_length_le (by rw [hl]; omega), chunk_flat hc]
@[simp] theorem frz_v (i : Nat) (cs : List AV) (x : Value) : (AV.v x).frz i cs = .v x := of_eq_true (eq_self _)
@[simp] theorem frz_any (i : Nat) (cs : List AV) : AV.any.frz i cs = .any := of_eq_true (eq_self _)
@[simp] theorem frz_box (i : Nat) (cs : List AV) (j o : Nat) : (AV.box j o).frz i cs = .box j o := of_eq_true (eq_self _)
@[simp] theorem frz_ro (i : Nat) (cs l : List AV) : (AV.ro l).frz i cs = .ro l := of_eq_true (eq_self _)
@[simp] theorem frz_sl (i : Nat) (cs : List AV) (k : Nat) (es : List (List AV)) (nul : Option Bool) (room : Room) : (AV.sl k es nul room).frz i cs = .sl k es nul room := of_eq_true (eq_self _)
@[simp] theorem frz_fn (i : Nat) (cs : List AV) (f : Fn) (a b : List AV) : (AV.fn f a b).frz i cs = .fn f a b := of_eq_true (eq_self _)
@[simp] theorem frz_agg (i : Nat) (cs l : List AV) : (AV.agg l).frz i cs = .agg l := of_eq_true (eq_self _)
@[simp] theorem frz_tup (i : Nat) (cs l : List AV) : (AV.tup l).frz i cs = .tup l := of_eq_true (eq_self _)
@[simp] theorem r_frzE_nil (i : Nat) (cs : List AV) : frzE i cs [] = [] := of_eq_true (eq_self _)
@[simp] theorem r_frzE_cons (i : Nat) (cs : List AV) (t : Nat) (a : AV) (r : List (Nat × AV)) : frzE i cs ((t, a) :: r) = (t, a.frz i cs) :: frzE i cs r := of_eq_true (eq_self _)
@[simp] theorem r_frz (i : Nat) (cs : List AV) (e o : List (Nat × AV)) (h : List (List AV)) (wr : List Nat) : (St.mk e o h wr).frz i cs = ⟨frzE i cs e, o, h.set i [], wr⟩ := of_eq_true (eq_self _)
end Go.Proofs.Ytphgbfemigcalaa.Ax
/- Lists in variables over values without memory: slices that are built by append onto nil, whose elements have two cells or more. No program is named here. -/
namespace Go.Proofs.Ytphgbfemigcalaa.Ax
open Go.RowKit Go By
set_option linter.unusedSimpArgs false
set_option linter.unusedVariables false
set_option maxRecDepth 10000

structure Elt {α : Type} (f : α → List AV) (k : Nat) : Prop where
  two : 2 ≤ k
  len : ∀ a, (f a).length = k
  plain : ∀ a, ∀ c ∈ f a, c.idOf = none
  lt : ∀ a n, ltL n (f a)
section
variable {α : Type} {f : α → List AV} {k : Nat}
theorem Elt.flat_len (he : Elt f k) (l : List α) : (enc f l).flatten.length = l.length * k := by
  induction l with
  | nil => simp
  | cons x l ih =>
    have e : enc f (x :: l) = f x :: enc f l := rfl
    rw [e, List.flatten_cons, List.length_append, ih, he.len, List.length_cons, Nat.add_mul]; omega
theorem Elt.sum (he : Elt f k) (l : List α) : (List.map List.length (enc f l)).sum = l.length * k := by rw [← List.length_flatten]; exact he.flat_len l
theorem Elt.at_ (he : Elt f k) : ∀ {l : List α} {j q : Nat} (hj : j < l.length) (hq : q < k), (enc f l).flatten[j * k + q]? = (f l[j])[q]?
  | x :: l, 0, q, _, hq => by
    have e : enc f (x :: l) = f x :: enc f l := rfl
    rw [e, List.flatten_cons, List.getElem?_append_left (by rw [he.len]; omega)]
    simp
  | x :: l, j + 1, q, hj, hq => by
    have e : enc f (x :: l) = f x :: enc f l := rfl
    have e1 : (j + 1) * k + q = k + (j * k + q) := by rw [Nat.add_mul]; omega
    rw [e, e1, List.flatten_cons, List.getElem?_append_right (by rw [he.len]; omega), he.len, show k + (j * k + q) - k = j * k + q by omega, he.at_ (by simpa using hj) hq]
    simp
theorem Elt.set (he : Elt f k) : ∀ {l : List α} {j q : Nat} (hj : j < l.length) (hq : q < k) (c : AV) (a : α), f a = (f l[j]).set q c → (enc f l).flatten.set (j * k + q) c = (enc f (l.set j a)).flatten
  | x :: l, 0, q, _, hq, c, a, ha => by
    have e : enc f (x :: l) = f x :: enc f l := rfl
    rw [e, List.flatten_cons, List.set_append_left _ _ (by rw [he.len]; omega)]
    have e2 : enc f ((x :: l).set 0 a) = f a :: enc f l := rfl
    rw [e2, List.flatten_cons, ha]
    simp
  | x :: l, j + 1, q, hj, hq, c, a, ha => by
    have e : enc f (x :: l) = f x :: enc f l := rfl
    have e1 : (j + 1) * k + q = k + (j * k + q) := by rw [Nat.add_mul]; omega
    rw [e, e1, List.flatten_cons, List.set_append_right _ _ (by rw [he.len]; omega), he.len, show k + (j * k + q) - k = j * k + q by omega, he.set (by simpa using hj) hq c a (by simpa using ha)]
    rfl
theorem Elt.take (he : Elt f k) : ∀ (l : List α) (j : Nat), (enc f l).flatten.take (j * k) = (enc f (l.take j)).flatten
  | [], j => by simp [enc]
  | x :: l, 0 => by simp [enc]
  | x :: l, j + 1 => by
    have e : enc f (x :: l) = f x :: enc f l := rfl
    have e2 : enc f (x :: l.take j) = f x :: enc f (l.take j) := rfl
    have e3 : (j + 1) * k = k + j * k := by rw [Nat.add_mul]; omega
    rw [List.take_succ_cons, e, e2, e3, List.flatten_cons, List.flatten_cons, List.take_append, he.len, show k + j * k - k = j * k by omega, he.take l j, List.take_of_length_le (by rw [he.len]; omega)]
theorem Elt.drop (he : Elt f k) : ∀ (l : List α) (j : Nat), (enc f l).flatten.drop (j * k) = (enc f (l.drop j)).flatten
  | [], j => by simp [enc]
  | x :: l, 0 => by simp [enc]
  | x :: l, j + 1 => by
    have e : enc f (x :: l) = f x :: enc f l := rfl
    have e3 : (j + 1) * k = k + j * k := by rw [Nat.add_mul]; omega
    rw [List.drop_succ_cons, e, e3, List.flatten_cons, List.drop_append, he.len, show k + j * k - k = j * k by omega, he.drop l j, List.drop_of_length_le (by rw [he.len]; omega), List.nil_append]
theorem Elt.flat_plain (he : Elt f k) (l : List α) : ∀ c ∈ (enc f l).flatten, c.idOf = none := fun c hc => by
  obtain ⟨e, he2, hc⟩ := List.mem_flatten.1 hc
  obtain ⟨s, _, rfl⟩ := List.mem_map.1 he2
  exact he.plain s c hc
theorem Elt.flat_lt (he : Elt f k) (n : Nat) (l : List α) : ltL n (enc f l).flatten := ltL_of fun j c hj => by
  obtain ⟨e, he2, hc⟩ := List.mem_flatten.1 (List.mem_of_getElem? hj)
  obtain ⟨s, _, rfl⟩ := List.mem_map.1 he2
  obtain ⟨q, hq⟩ := List.getElem?_of_mem hc
  exact ltL_get (he.lt s n) q c hq
/-- A list's slice: nil, or a variable's. -/
def lisV (k b : Nat) : List α → AV
  | [] => .sl 0 [] (some true) .exact
  | x :: l => .bsl b 0 k (x :: l).length
theorem lisV_some (k b : Nat) {l : List α} (h : l ≠ []) : lisV k b l = .bsl b 0 k l.length := by cases l with | nil => exact absurd rfl h | cons _ _ => rfl
@[simp] theorem lisV_cells (k b : Nat) (l : List α) : (lisV k b l).cells = some [lisV k b l] := by cases l <;> rfl
@[simp] theorem lisV_unown (k b : Nat) (l : List α) : (lisV k b l).unown = lisV k b l := by cases l <;> rfl
@[simp] theorem lisV_id (k b : Nat) (l : List α) : (lisV k b l).idOf = none := by cases l <;> rfl
@[simp] theorem lisV_len (k b : Nat) (l : List α) : vLenL (lisV k b l) = ⟨True, .v (.int .i64 (l.length : Int)), false, []⟩ := by cases l <;> rfl
theorem lisV_lt {k b n : Nat} {l : List α} (h : l ≠ [] → b < n) : (lisV k b l).lt n := by
  cases l with
  | nil => exact trivial
  | cons x l => exact h (by simp)
/-- What is appended is these. -/
def IsRows (f : α → List AV) (h : List (List AV)) (k : Nat) (x : AV) (X : List α) : Prop :=
  (X ≠ [] ∧ rowsOf h k x = some (enc f X)) ∨ (X = [] ∧ match x with | .sl _ es _ _ => es = [] | .bsl _ _ _ m => m = 0 | _ => False)
theorem rows_cut (he : Elt f k) {H : List (List AV)} {b : Nat} {l : List α} (hb : H[b]? = some (enc f l).flatten) {lo hi : Nat} (h1 : lo ≤ hi) (h2 : hi ≤ l.length) : rowsOf H k (.bsl b (lo * k) k (hi - lo)) = some (enc f ((l.take hi).drop lo)) := by
  show (if k = k then (H[b]?).bind fun cs => if lo * k + (hi - lo) * k ≤ cs.length then some (chunk k (hi - lo) ((cs.drop (lo * k)).take ((hi - lo) * k))) else none else none) = _
  rw [if_pos rfl, hb]
  have hle : lo * k + (hi - lo) * k ≤ l.length * k := by
    rw [← Nat.add_mul]; exact Nat.mul_le_mul_right k (by omega)
  show (if lo * k + (hi - lo) * k ≤ (enc f l).flatten.length then some (chunk k (hi - lo) (((enc f l).flatten.drop (lo * k)).take ((hi - lo) * k))) else none) = _
  rw [if_pos (by rw [he.flat_len]; exact hle), he.drop, he.take]
  have e : (l.drop lo).take (hi - lo) = (l.take hi).drop lo := by rw [List.drop_take]
  have hl : ((l.take hi).drop lo).length = hi - lo := by simp; omega
  rw [e]
  have := chunk_flat he.len ((l.take hi).drop lo)
  rw [hl] at this
  rw [this]
/-- A cut of a list's slice. -/
theorem isRows_cut (he : Elt f k) {H : List (List AV)} {b : Nat} {l : List α} (hb : H[b]? = some (enc f l).flatten) {lo hi : Nat} (h1 : lo ≤ hi) (h2 : hi ≤ l.length) {c : Prop} [Decidable c] (hc : c ↔ lo = hi) {off n : Nat} (ho : off = lo * k) (hn : n = hi - lo) {nul : Option Bool} {room : Room} :
    IsRows f H k (if c then .sl k [] nul room else .bsl b off k n) ((l.take hi).drop lo) := by
  subst ho hn
  have hl : ((l.take hi).drop lo).length = hi - lo := by simp; omega
  by_cases e : lo = hi
  · rw [if_pos (hc.2 e)]
    exact .inr ⟨List.eq_nil_of_length_eq_zero (by omega), rfl⟩
  · rw [if_neg (fun h => e (hc.1 h))]
    exact .inl ⟨fun h => by rw [h] at hl; simp at hl; omega, rows_cut he hb h1 h2⟩
theorem isRows_sl {H : List (List AV)} {X : List α} {es : List (List AV)} {nul : Option Bool} {room : Room} (h : es = enc f X) : IsRows f H k (.sl k es nul room) X := by
  subst h
  cases X with
  | nil => exact .inr ⟨rfl, rfl⟩
  | cons x X => exact .inl ⟨by simp, by show (if k = k then _ else _) = _; rw [if_pos rfl]⟩
theorem isRows_lis (he : Elt f k) {H : List (List AV)} {b : Nat} {l : List α} (hb : l ≠ [] → H[b]? = some (enc f l).flatten) : IsRows f H k (lisV k b l) l := by
  cases l with
  | nil => exact .inr ⟨rfl, rfl⟩
  | cons x l =>
    have := rows_cut he (hb (by simp)) (lo := 0) (hi := (x :: l).length) (Nat.zero_le _) (Nat.le_refl _)
    rw [Nat.zero_mul, Nat.sub_zero, List.take_length, List.drop_zero] at this
    exact .inl ⟨by simp, this⟩
def apH (f : α → List AV) (h : List (List AV)) (b : Nat) (L X : List α) : List (List AV) := if X = [] then h else if L = [] then h ++ [(enc f X).flatten] else h.set b [] ++ [(enc f (L ++ X)).flatten]
def apB (h : List (List AV)) (b : Nat) (X : List α) : Nat := if X = [] then b else h.length
def apW (b : Nat) (L X : List α) (wr : List Nat) : List Nat := if X = [] then wr else if L = [] then wr else b :: wr
theorem ap_run (he : Elt f k) {s : St} {b bytes : Nat} {d : Option Nat} {L X : List α} {x : AV} {K : St → List Nat → Prop} (hb : L ≠ [] → s.heap[b]? = some (enc f L).flatten) (hx : IsRows f s.heap k x X) (h1 : (L.length + X.length) * bytes ≤ 140737488355328) (h2 : L.length + X.length ≤ 140737488355328)
    (hK : K (({ s with heap := apH f s.heap b L X, wr := apW b L X s.wr } : St).puts d (lisV k (apB s.heap b X) (L ++ X)) false) []) : xappendA s k bytes d (lisV k b L) x K := by
  have ht := he.two
  rcases hx with ⟨hX, hr⟩ | ⟨hX, hr⟩
  · unfold apH apW apB at hK
    rw [if_neg hX, if_neg hX, if_neg hX, lisV_some _ _ (by simp [hX])] at hK
    have hne : enc f X ≠ [] := fun e => hX (List.eq_nil_of_length_eq_zero (by have := congrArg List.length e; simpa using this))
    have hel : (enc f X).length = X.length := by simp
    cases L with
    | nil =>
      rw [if_pos rfl, if_pos rfl] at hK
      refine .inr (.inl ⟨ht, _, hr, hne, he.flat_plain X, ?_⟩)
      show (enc f X).length * bytes ≤ _ ∧ (enc f X).length ≤ _ ∧ _
      rw [hel]
      simp only [List.length_nil, Nat.zero_add, List.nil_append] at h1 h2 hK
      exact ⟨h1, h2, hK⟩
    | cons y L =>
      rw [if_neg (by simp), if_neg (by simp)] at hK
      refine .inr (.inl ⟨ht, _, hr, hne, he.flat_plain X, ?_⟩)
      show k = k ∧ 0 < (y :: L).length ∧ _
      refine ⟨rfl, by simp, _, hb (by simp), he.flat_len _, he.flat_plain _, by rw [hel]; exact h1, by rw [hel]; exact h2, ?_⟩
      rw [hel]
      have e : enc f (y :: L ++ X) = enc f (y :: L) ++ enc f X := by simp [enc]
      rw [e, List.flatten_append, List.length_append] at hK
      exact hK
  · subst hX
    unfold apH apW apB at hK
    rw [if_pos rfl, if_pos rfl, if_pos rfl, List.append_nil] at hK
    cases L with
    | nil => exact .inr (.inr ⟨ht, hr, hK⟩)
    | cons y L => exact .inr (.inr ⟨ht, hr, hK⟩)
/-- A list of one's own behind a heap. -/
structure OwnL (f : α → List AV) (k : Nat) (h0 h : List (List AV)) (b : Nat) (L : List α) : Prop where
  len : h0.length ≤ h.length
  ext : ∀ q < h0.length, h[q]? = h0[q]?
  lt : ltLL h.length h
  plain : plainH h0 → plainH h
  own : L ≠ [] → h0.length ≤ b ∧ h[b]? = some (enc f L).flatten
theorem OwnL.nil {h : List (List AV)} (hh : ltLL h.length h) (b : Nat) : OwnL f k h h b ([] : List α) := ⟨Nat.le_refl _, fun _ _ => rfl, hh, fun h => h, fun h => absurd rfl h⟩
theorem OwnL.ap (he : Elt f k) {h0 h : List (List AV)} {b : Nat} {L : List α} (hF : OwnL f k h0 h b L) (X : List α) : OwnL f k h0 (apH f h b L X) (apB h b X) (L ++ X) := by
  unfold apH apB
  by_cases hX : X = []
  · subst hX
    rw [if_pos rfl, if_pos rfl, List.append_nil]; exact hF
  · rw [if_neg hX, if_neg hX]
    by_cases hL : L = []
    · subst hL
      rw [if_pos rfl]
      refine ⟨by have := hF.len; simp; omega, fun q hq => ?_, ?_, fun hp => plainH_append (hF.plain hp) ?_, fun _ => ⟨hF.len, by simp⟩⟩
      · rw [List.getElem?_append_left (by have := hF.len; omega)]; exact hF.ext q hq
      · rw [List.length_append]
        exact ltLL_append.2 ⟨ltLL_mono (Nat.le_add_right _ _) hF.lt, by simp; exact he.flat_lt _ _⟩
      · intro x hx; rw [List.mem_singleton.1 hx]; exact he.flat_plain X
    · rw [if_neg hL]
      obtain ⟨hb1, hb2⟩ := hF.own hL
      refine ⟨by have := hF.len; simp; omega, fun q hq => ?_, ?_, fun hp => plainH_append (plainH_set (hF.plain hp) (fun c hc => by cases hc) _) ?_, fun _ => ⟨hF.len, by simp⟩⟩
      · rw [List.getElem?_append_left (by have := hF.len; simp; omega), List.getElem?_set_ne (by omega)]; exact hF.ext q hq
      · rw [List.length_append, List.length_set]
        exact ltLL_append.2 ⟨ltLL_set (ltLL_mono (Nat.le_add_right _ _) hF.lt) (by simp), by simp; simpa using he.flat_lt _ (L ++ X)⟩
      · intro x hx; rw [List.mem_singleton.1 hx]; exact he.flat_plain _
@[simp] theorem apW_nil (b : Nat) (X : List α) (wr : List Nat) : apW b [] X wr = wr := by unfold apW; split <;> rfl
theorem apW_mem {b : Nat} {L X : List α} {wr : List Nat} {q : Nat} (h : q ∈ apW b L X wr) : q ∈ wr ∨ (L ≠ [] ∧ q = b) := by
  unfold apW at h
  split at h
  · exact .inl h
  · split at h
    · exact .inl h
    · rename_i hL
      rcases List.mem_cons.1 h with h | h
      · exact .inr ⟨hL, h⟩
      · exact .inl h
end
end Go.Proofs.Ytphgbfemigcalaa.Ax
/- The document's table over values without memory: names, rising. -/
namespace Go.Proofs.Ytphgbfemigcalaa.Ax
open Go.RowKit Go By
set_option linter.unusedSimpArgs false
set_option linter.unusedVariables false
set_option maxRecDepth 10000

structure Nm where
  name : List UInt8
  id : Int
def nmC (n : Nm) : List AV := [.v (.string (strB n.name)), .v (.int .i64 n.id)]
theorem nmE : Elt nmC 2 := ⟨by omega, fun _ => rfl, fun a c hc => by simp [nmC] at hc; rcases hc with rfl | rfl <;> rfl, fun a n => by simp [nmC]⟩
namespace Nm
/-- Rising, by name. -/
def Rise (L : List Nm) : Prop := (L.map Nm.name).Pairwise (· < ·)
def get (k : List UInt8) (L : List Nm) : Option Int := (L.find? fun x => decide (x.name = k)).map Nm.id
def at_ (k : List UInt8) : List Nm → Nat
  | [] => 0
  | x :: l => if x.name < k then at_ k l + 1 else 0
def ins (k : List UInt8) (v : Int) (L : List Nm) : List Nm := L.take (at_ k L) ++ [⟨k, v⟩] ++ L.drop (at_ k L)
theorem at_le (k : List UInt8) : ∀ L : List Nm, at_ k L ≤ L.length
  | [] => Nat.le_refl _
  | x :: l => by
    unfold at_
    have := at_le k l
    split <;> simp <;> omega
theorem at_lt {k : List UInt8} : ∀ {L : List Nm} {j : Nat} (hj : j < L.length), j < at_ k L → L[j].name < k
  | x :: l, 0, _, h => by
    unfold at_ at h
    split at h
    · rename_i hx; exact hx
    · omega
  | x :: l, j + 1, hj, h => by
    unfold at_ at h
    split at h
    · exact at_lt (L := l) (by simpa using hj) (by omega)
    · omega
theorem at_ge {k : List UInt8} : ∀ {L : List Nm} (hj : at_ k L < L.length), ¬ L[at_ k L].name < k
  | x :: l, hj => by
    by_cases hx : x.name < k
    · have e : at_ k (x :: l) = at_ k l + 1 := by show (if x.name < k then _ else _) = _; rw [if_pos hx]
      have h := at_ge (k := k) (L := l) (by rw [e] at hj; simpa using hj)
      simp only [e, List.getElem_cons_succ]
      exact h
    · have e : at_ k (x :: l) = 0 := by show (if x.name < k then _ else _) = _; rw [if_neg hx]
      simp only [e, List.getElem_cons_zero]
      exact hx
theorem names_nodup {L : List Nm} (h : Rise L) : (L.map Nm.name).Nodup := h.imp fun {a b} h e => by subst e; exact List.lt_irrefl _ h
theorem idx_inj {L : List Nm} (h : Rise L) {j k : Nat} (hj : j < L.length) (hk : k < L.length) (e : L[j].name = L[k].name) : j = k := by
  have h := List.pairwise_iff_getElem.1 h
  rcases Nat.lt_trichotomy j k with h1 | h1 | h1
  · have := h j k (by simpa using hj) (by simpa using hk) h1
    simp [e] at this
    exact absurd this (List.lt_irrefl _)
  · exact h1
  · have := h k j (by simpa using hk) (by simpa using hj) h1
    simp [e] at this
    exact absurd this (List.lt_irrefl _)
theorem get_iff {L : List Nm} (h : Rise L) {k : List UInt8} {v : Int} : get k L = some v ↔ ∃ x ∈ L, x.name = k ∧ x.id = v := by
  unfold get
  constructor
  · intro hg
    cases hf : L.find? (fun x => decide (x.name = k)) with
    | none => rw [hf] at hg; cases hg
    | some x =>
      rw [hf] at hg
      injection hg with hg
      exact ⟨x, List.mem_of_find?_eq_some hf, by simpa using List.find?_some hf, hg⟩
  · rintro ⟨x, hx, rfl, rfl⟩
    cases hf : L.find? (fun y => decide (y.name = x.name)) with
    | none => have := List.find?_eq_none.1 hf x hx; simp at this
    | some y =>
      have h1 := List.mem_of_find?_eq_some hf
      have h2 : y.name = x.name := by simpa using List.find?_some hf
      rw [map_inj_mem (names_nodup h) h1 hx h2]; rfl
theorem get_none {L : List Nm} {k : List UInt8} : get k L = none ↔ ∀ x ∈ L, x.name ≠ k := by
  unfold get
  rw [Option.map_eq_none_iff, List.find?_eq_none]
  simp
theorem get_at {L : List Nm} (h : Rise L) {j : Nat} (hj : j < L.length) : get L[j].name L = some L[j].id := (get_iff h).2 ⟨_, List.getElem_mem hj, rfl, rfl⟩
theorem rise_ins {L : List Nm} (h : Rise L) {k : List UInt8} (hk : ∀ x ∈ L, x.name ≠ k) (v : Int) : Rise (ins k v L) := by
  unfold Rise ins
  have hpw := List.pairwise_iff_getElem.1 h
  have low : ∀ x ∈ L.take (at_ k L), x.name < k := fun x hx => by
    obtain ⟨j, hj, rfl⟩ := List.getElem_of_mem hx
    rw [List.getElem_take]
    simp at hj
    exact at_lt (by omega) (by omega)
  have high : ∀ x ∈ L.drop (at_ k L), k < x.name := fun x hx => by
    obtain ⟨j, hj, rfl⟩ := List.getElem_of_mem hx
    rw [List.getElem_drop]
    simp at hj
    have hge := at_ge (k := k) (L := L) (by omega)
    have hne : L[at_ k L].name ≠ k := hk _ (List.getElem_mem _)
    have hlt0 : k < L[at_ k L].name := by
      rcases List.le_iff_lt_or_eq.1 (List.not_lt.1 hge) with h1 | h1
      · exact h1
      · exact absurd h1.symm hne
    cases j with
    | zero => simpa using hlt0
    | succ j =>
      have h2 := hpw (at_ k L) (at_ k L + (j + 1)) (by simp; omega) (by simp; omega) (by omega)
      simp at h2
      exact List.lt_trans hlt0 h2
  have all := (List.take_append_drop (at_ k L) L)
  have hL : ((L.take (at_ k L)).map Nm.name ++ (L.drop (at_ k L)).map Nm.name).Pairwise (· < ·) := by rw [← List.map_append, all]; exact h
  obtain ⟨p1, p2, p3⟩ := List.pairwise_append.1 hL
  rw [List.append_assoc, List.map_append, List.map_append, List.pairwise_append, List.pairwise_append]
  refine ⟨p1, ⟨by simp, p2, fun a ha b hb => ?_⟩, fun a ha b hb => ?_⟩
  · obtain ⟨y, hy, rfl⟩ := List.mem_map.1 hb
    simp at ha
    rw [ha]; exact high y hy
  · obtain ⟨x, hx, rfl⟩ := List.mem_map.1 ha
    rcases List.mem_append.1 hb with hb | hb
    · simp at hb; rw [hb]; exact low x hx
    · exact p3 _ (List.mem_map.2 ⟨x, hx, rfl⟩) _ hb
theorem mem_ins {L : List Nm} {k : List UInt8} {v : Int} {x : Nm} : x ∈ ins k v L ↔ x = ⟨k, v⟩ ∨ x ∈ L := by
  have : x ∈ L ↔ x ∈ L.take (at_ k L) ++ L.drop (at_ k L) := by rw [List.take_append_drop]
  rw [this]
  unfold ins
  simp only [List.mem_append, List.mem_singleton]
  constructor
  · rintro ((h | h) | h)
    · exact .inr (.inl h)
    · exact .inl h
    · exact .inr (.inr h)
  · rintro (h | h | h)
    · exact .inl (.inr h)
    · exact .inl (.inl h)
    · exact .inr h
theorem ins_len (k : List UInt8) (v : Int) (L : List Nm) : (ins k v L).length = L.length + 1 := by
  have := at_le k L
  unfold ins; simp; omega
def upd (j : Nat) (v : Int) (L : List Nm) : List Nm := match L[j]? with
  | some x => L.set j ⟨x.name, v⟩
  | none => L
theorem upd_names (j : Nat) (v : Int) (L : List Nm) : (upd j v L).map Nm.name = L.map Nm.name := by
  unfold upd
  cases hj : L[j]? with
  | none => rfl
  | some x =>
    refine List.ext_getElem? fun q => ?_
    rw [List.getElem?_map, List.getElem?_map, List.getElem?_set]
    split
    · rename_i e; subst e
      split
      · rw [hj]; rfl
      · rename_i hh; rw [List.getElem?_eq_none (by omega)]
    · rfl
def del (k : List UInt8) (L : List Nm) : List Nm := L.eraseP fun x => decide (x.name = k)
theorem del_idx {L : List Nm} (h : Rise L) {j : Nat} (hj : j < L.length) : del L[j].name L = L.take j ++ L.drop (j + 1) := by
  have key : ∀ {l : List Nm} {j : Nat} (hj : j < l.length), (∀ q (hq : q < l.length), l[q].name = l[j].name → q = j) → l.eraseP (fun x => decide (x.name = l[j].name)) = l.take j ++ l.drop (j + 1) := by
    intro l
    induction l with
    | nil => intro j hj; cases hj
    | cons x l ih =>
      intro j hj hu
      cases j with
      | zero => simp
      | succ j =>
        have hj' : j < l.length := by simpa using hj
        have hx : ¬ x.name = l[j].name := fun e => by have := hu 0 (by simp) (by simpa using e); omega
        have := ih (j := j) (by simpa using hj) fun q hq e => by have := hu (q + 1) (by simpa using hq) (by simpa using e); omega
        simp [hx, this]
  exact key hj fun q hq e => idx_inj h hq hj e
theorem rise_del {L : List Nm} (h : Rise L) (k : List UInt8) : Rise (del k L) := List.Pairwise.sublist ((List.eraseP_sublist ..).map _) h
theorem get_del {L : List Nm} (h : Rise L) (k k' : List UInt8) : get k' (del k L) = if k' = k then none else get k' L := by
  refine KE.opt_ext fun u => ?_
  rw [get_iff (rise_del h k)]
  constructor
  · rintro ⟨x, hx, rfl, rfl⟩
    obtain ⟨h1, h2⟩ := mem_eraseP_ne (names_nodup h) hx
    rw [if_neg h2]; exact (get_iff h).2 ⟨x, h1, rfl, rfl⟩
  · intro hg
    by_cases e : k' = k
    · rw [if_pos e] at hg; cases hg
    · rw [if_neg e] at hg
      obtain ⟨x, hx, h3, h4⟩ := (get_iff h).1 hg
      exact ⟨x, (List.mem_eraseP_of_neg (by simpa using fun e2 => e (h3.symm.trans e2))).2 hx, h3, h4⟩
/-- A name is set. -/
def put (k : List UInt8) (v : Int) (L : List Nm) : List Nm := if (get k L).isSome = true then L.map (fun x => if x.name = k then ⟨x.name, v⟩ else x) else ins k v L
theorem put_at {L : List Nm} (h : Rise L) {j : Nat} (hj : j < L.length) (v : Int) : put L[j].name v L = L.set j ⟨L[j].name, v⟩ := by
  unfold put
  rw [get_at h hj]
  simp only [Option.isSome_some, if_true]
  refine List.ext_getElem (by simp) fun q h1 h2 => ?_
  have hq : q < L.length := by simpa using h1
  rw [List.getElem_map, List.getElem_set]
  by_cases e : j = q
  · subst e; simp
  · rw [if_neg e, if_neg (fun e2 => e (idx_inj h hq hj e2).symm)]
theorem put_new {L : List Nm} {k : List UInt8} (hk : get k L = none) (v : Int) : put k v L = ins k v L := by unfold put; rw [hk]; rfl
theorem put_some_names {L : List Nm} {k : List UInt8} (v : Int) : (L.map (fun x => if x.name = k then (⟨x.name, v⟩ : Nm) else x)).map Nm.name = L.map Nm.name := by
  rw [List.map_map]
  refine List.map_congr_left fun x _ => ?_
  simp only [Function.comp]
  split <;> rfl
theorem rise_put {L : List Nm} (h : Rise L) (k : List UInt8) (v : Int) : Rise (put k v L) := by
  unfold put
  cases hg : get k L with
  | none => exact rise_ins h (get_none.1 hg) v
  | some u =>
    simp only [Option.isSome_some, if_true]
    unfold Rise
    rw [put_some_names]; exact h
theorem get_put {L : List Nm} (h : Rise L) (k : List UInt8) (v : Int) (k' : List UInt8) : get k' (put k v L) = if k' = k then some v else get k' L := by
  refine KE.opt_ext fun u => ?_
  rw [get_iff (rise_put h k v)]
  unfold put
  cases hg : get k L with
  | none =>
    simp only [Option.isSome_none, Bool.false_eq_true, if_false]
    constructor
    · rintro ⟨x, hx, rfl, rfl⟩
      rcases mem_ins.1 hx with hx | hx
      · subst hx; simp
      · rw [if_neg (get_none.1 hg x hx)]; exact (get_iff h).2 ⟨x, hx, rfl, rfl⟩
    · intro hu
      by_cases e : k' = k
      · rw [if_pos e] at hu
        injection hu with hu
        exact ⟨⟨k, v⟩, mem_ins.2 (.inl rfl), e.symm, hu⟩
      · rw [if_neg e] at hu
        obtain ⟨x, hx, h3, h4⟩ := (get_iff h).1 hu
        exact ⟨x, mem_ins.2 (.inr hx), h3, h4⟩
  | some w =>
    simp only [Option.isSome_some, if_true]
    obtain ⟨s, hs, h1, h2⟩ := (get_iff h).1 hg
    constructor
    · rintro ⟨x, hx, rfl, rfl⟩
      obtain ⟨y, hy, rfl⟩ := List.mem_map.1 hx
      by_cases e : y.name = k
      · simp [e]
      · simp [e]; exact (get_iff h).2 ⟨y, hy, rfl, rfl⟩
    · intro hu
      by_cases e : k' = k
      · rw [if_pos e] at hu
        injection hu with hu
        exact ⟨⟨s.name, v⟩, List.mem_map.2 ⟨s, hs, by rw [if_pos h1]⟩, h1.trans e.symm, hu⟩
      · rw [if_neg e] at hu
        obtain ⟨x, hx, h3, h4⟩ := (get_iff h).1 hu
        have hne : ¬ x.name = k := fun e2 => e (h3.symm.trans e2)
        exact ⟨x, List.mem_map.2 ⟨x, hx, by rw [if_neg hne]⟩, h3, h4⟩
theorem put_len (k : List UInt8) (v : Int) (L : List Nm) : (put k v L).length = if (get k L).isSome = true then L.length else L.length + 1 := by
  unfold put
  split
  · simp
  · exact ins_len _ _ _
/-- The same names, with the same ids. -/
def Sim (e : List (KE Int)) (L : List Nm) : Prop := ∀ k, get k L = KE.get k e
theorem Sim.names {clock : Nat} {e : List (KE Int)} {L : List Nm} (h : Sim e L) (ho : KE.Ok clock e) (hr : Rise L) : sortS (e.map KE.key) = L.map Nm.name := by
  refine sorted_strs hr ho.keys fun x => ?_
  have hx := h x
  constructor
  · intro hm
    obtain ⟨y, hy, rfl⟩ := List.mem_map.1 hm
    rw [(KE.get_iff ho).2 ⟨y, hy, rfl, rfl⟩] at hx
    obtain ⟨z, hz, h1, _⟩ := (get_iff hr).1 hx
    exact List.mem_map.2 ⟨z, hz, h1⟩
  · intro hm
    obtain ⟨y, hy, rfl⟩ := List.mem_map.1 hm
    rw [(get_iff hr).2 ⟨y, hy, rfl, rfl⟩] at hx
    obtain ⟨z, hz, h1, _⟩ := (KE.get_iff ho).1 hx.symm
    exact List.mem_map.2 ⟨z, hz, h1⟩
theorem Sim.len {clock : Nat} {e : List (KE Int)} {L : List Nm} (h : Sim e L) (ho : KE.Ok clock e) (hr : Rise L) : e.length = L.length := by
  have := congrArg List.length (h.names ho hr)
  simpa [sortS, List.length_mergeSort] using this
theorem Sim.put {clock : Nat} {e : List (KE Int)} {L : List Nm} (h : Sim e L) (ho : KE.Ok clock e) (hr : Rise L) (k : List UInt8) (v : Int) : Sim (KE.put k clock v e) (put k v L) := fun k' => by
  rw [get_put hr, KE.get_put ho, h k']
theorem Sim.del {clock : Nat} {e : List (KE Int)} {L : List Nm} (h : Sim e L) (ho : KE.Ok clock e) (hr : Rise L) (k : List UInt8) : Sim (KE.del k e) (del k L) := fun k' => by
  rw [get_del hr, KE.get_del ho, h k']
end Nm
end Go.Proofs.Ytphgbfemigcalaa.Ax
/- The document's table over values without memory: its calls. -/
namespace Go.Proofs.Ytphgbfemigcalaa.Ax
open Go.RowKit Go By
set_option linter.unusedSimpArgs false
set_option linter.unusedVariables false
set_option maxRecDepth 10000

structure NlAt (lo : Nat) (h : List (List AV)) (i b most : Nat) (L : List Nm) : Prop where
  top : h[i]? = some [lisV 2 b L, .v (.int .i64 (most : Int))]
  list : L ≠ [] → h[b]? = some (enc nmC L).flatten
  low : lo ≤ i ∧ lo ≤ b
  apart : i ≠ b
  lt : ltLL h.length h
theorem NlAt.move {lo : Nat} {h : List (List AV)} {i b most : Nat} {L : List Nm} (hr : NlAt lo h i b most L) {h' : List (List AV)} (hi : h'[i]? = h[i]?) (hb : L ≠ [] → h'[b]? = h[b]?) (hlt : ltLL h'.length h') : NlAt lo h' i b most L :=
  ⟨hi.trans hr.top, fun hne => (hb hne).trans (hr.list hne), hr.low, hr.apart, hlt⟩
theorem NlAt.app {lo : Nat} {h : List (List AV)} {i b most : Nat} {L : List Nm} (hr : NlAt lo h i b most L) (xs : List (List AV)) (hx : ltLL (h.length + xs.length) xs) : NlAt lo (h ++ xs) i b most L :=
  hr.move (List.getElem?_append_left (List.getElem?_eq_some_iff.1 hr.top).1) (fun hne => List.getElem?_append_left (List.getElem?_eq_some_iff.1 (hr.list hne)).1) (by rw [ltLL_append, List.length_append]; exact ⟨ltLL_mono (Nat.le_add_right _ _) hr.lt, hx⟩)
theorem NlAt.el {lo : Nat} {h : List (List AV)} {i b most : Nat} {L : List Nm} (hr : NlAt lo h i b most L) {j : Nat} (hj : j < L.length) : h[i]? = some [.bsl b 0 2 L.length, .v (.int .i64 (most : Int))] ∧ h[b]? = some (enc nmC L).flatten ∧ (enc nmC L).flatten[j * 2]? = some (.v (.string (strB L[j].name))) ∧ (enc nmC L).flatten[j * 2 + 1]? = some (.v (.int .i64 L[j].id)) ∧ (enc nmC L).flatten.length = L.length * 2 := by
  have hne : L ≠ [] := fun e => by rw [e] at hj; cases hj
  have h1 := hr.top
  rw [lisV_some _ _ hne] at h1
  have e0 := nmE.at_ hj (q := 0) (by omega)
  have e1 := nmE.at_ hj (q := 1) (by omega)
  rw [Nat.add_zero] at e0
  exact ⟨h1, hr.list hne, e0, e1, nmE.flat_len _⟩
section
variable {lo : Nat} {h : List (List AV)} {i b most : Nat} {L : List Nm}
theorem nget_c (hr : NlAt lo h i b most L) (hs : Nm.Rise L) (hn : L.length ≤ 1000000) (k : List UInt8) : Contract Try.prog 18 [.box i 0, .v (.string (strB k))] h (.tup [.v (.int .i64 ((Nm.get k L).getD 0)), .v (.bool (Nm.get k L).isSome)]) h [] := by
  have hi := (List.getElem?_eq_some_iff.1 hr.top).1
  refine contract_of k18 mixed (by simp [c18]) fun hh hargs => ?_
  simp [c18]
  refine xloop_ok (D := Nat) (fun j => ⟨[(0, .box i 0), (1, .v (.string (strB k))), (6, .v (.int .i64 (j : Int)))], [], h, []⟩) (fun j => j ≤ L.length ∧ (∀ q (hq : q < L.length), q < j → L[q].name ≠ k)) (fun j => L.length - j) 0 ⟨by omega, fun q hq h => by omega⟩ ?_ ?_
  · simp [Leq, hh, leqH_take, hi]
    done
  · rintro j ⟨hj, hno⟩
    by_cases hlt : j < L.length
    · obtain ⟨e1, e2, e3, e4, e5⟩ := hr.el hlt
      have hw : IntKind.i64.wrap ((j : Int) + 1) = (j : Int) + 1 := wrap64 (by omega) (by omega)
      by_cases e : L[j].name = k
      · have hg : Nm.get k L = some L[j].id := by rw [← e]; exact Nm.get_at hs hlt
        simp [e1, e2, e3, e4, hlt, strB_toList, e, hg, hh]
        done
      · simp [e1, e2, e3, e4, hlt, strB_toList, e, hw]
        refine ⟨j + 1, ⟨by omega, fun q hq hqj => ?_⟩, by omega, ?_⟩
        · rcases Nat.lt_succ_iff_lt_or_eq.1 hqj with h3 | h3
          · exact hno q hq h3
          · subst h3; exact e
        · simp [Leq, hh, leqH_take, hi]
    · have : j = L.length := by omega
      subst this
      have hg : Nm.get k L = none := Nm.get_none.2 fun x hx => by
        obtain ⟨q, hq, rfl⟩ := List.getElem_of_mem hx
        exact hno q hq hq
      have h1 := hr.top
      by_cases hl : L = []
      · subst hl
        simp [lisV] at h1
        simp [h1, hh, hg]
        done
      · rw [lisV_some _ _ hl] at h1
        simp [h1, hh, hg]
        done
/-- What a call does to the document's table. -/
def DoesN (f : FuncId) (args : List AV) (lo : Nat) (h : List (List AV)) (i b most : Nat) (L : List Nm) (r : AV) (L' : List Nm) : Prop :=
  ∃ h' b', Contract Try.prog f args h r h' [i, b] ∧ NlAt lo h' i b' most L' ∧ (b' = b ∨ h.length ≤ b') ∧ h.length ≤ h'.length ∧ (∀ q < h.length, q ≠ i → q ≠ b → h'[q]? = h[q]?) ∧ (plainH h → plainH h')
/-- What is built behind a heap takes the list's place. -/
theorem NlAt.own (hr : NlAt lo h i b most L) {H : List (List AV)} {b' : Nat} {L' : List Nm} (hF : OwnL nmC 2 h H b' L') (hb : L' = [] → b' = b) : NlAt lo (H.set i [lisV 2 b' L', .v (.int .i64 (most : Int))]) i b' most L' ∧ (b' = b ∨ h.length ≤ b') ∧ h.length ≤ (H.set i [lisV 2 b' L', .v (.int .i64 (most : Int))]).length ∧ (∀ q < h.length, q ≠ i → q ≠ b → (H.set i [lisV 2 b' L', .v (.int .i64 (most : Int))])[q]? = h[q]?) ∧ (plainH h → plainH (H.set i [lisV 2 b' L', .v (.int .i64 (most : Int))])) := by
  have hi := (List.getElem?_eq_some_iff.1 hr.top).1
  have hl := hF.len
  have hb2 : b' = b ∨ h.length ≤ b' := by
    by_cases e : L' = []
    · exact .inl (hb e)
    · exact .inr (hF.own e).1
  have hne : i ≠ b' := by
    rcases hb2 with e | e
    · rw [e]; exact hr.apart
    · omega
  refine ⟨⟨List.getElem?_set_self (by omega), fun e => ?_, ⟨hr.low.1, ?_⟩, hne, ?_⟩, hb2, by simp; omega, fun q hq n1 _ => ?_, fun hp => plainH_set (hF.plain hp) (fun c hc => ?_) _⟩
  · rw [List.getElem?_set_ne hne]; exact (hF.own e).2
  · rcases hb2 with e | e
    · rw [e]; exact hr.low.2
    · have := hr.low.1; omega
  · rw [List.length_set]
    refine ltLL_set hF.lt ⟨lisV_lt fun e => (List.getElem?_eq_some_iff.1 (hF.own e).2).1, trivial, trivial⟩
  · rw [List.getElem?_set_ne (Ne.symm n1)]; exact hF.ext q hq
  · simp at hc
    rcases hc with rfl | rfl
    · exact lisV_id _ _ _
    · rfl
def Nm.full (most : Nat) (k : List UInt8) (L : List Nm) : Bool := !(Nm.get k L).isSome && decide (most ≤ L.length)
def Nm.set (most : Nat) (k : List UInt8) (v : Int) (L : List Nm) : List Nm := if Nm.full most k L = true then L else Nm.put k v L
def Nm.err (most : Nat) (k : List UInt8) (L : List Nm) : Int := if Nm.full most k L = true then 6 else 0
theorem nset_at (hr : NlAt lo h i b most L) (hs : Nm.Rise L) (hn : L.length ≤ 1000000) {j : Nat} (hj : j < L.length) (v : Int) : DoesN 14 [.box i 0, .v (.string (strB L[j].name)), .v (.int .i64 v)] lo h i b most L (.tup [.v (.int .i64 L[j].id), .v (.int .i64 0)]) (Nm.put L[j].name v L) := by
  have hi := (List.getElem?_eq_some_iff.1 hr.top).1
  obtain ⟨f1, f2, f3, f4, f5⟩ := hr.el hj
  have hb := (List.getElem?_eq_some_iff.1 f2).1
  have hset := nmE.set hj (q := 1) (by omega) (.v (.int .i64 v)) (⟨L[j].name, v⟩ : Nm) rfl
  rw [Nm.put_at hs hj]
  have hLne : L ≠ [] := fun e => by rw [e] at hj; cases hj
  have hL' : L.set j (⟨L[j].name, v⟩ : Nm) ≠ [] := fun e => hLne (List.eq_nil_of_length_eq_zero (by have := congrArg List.length e; simpa using this))
  refine ⟨h.set b (enc nmC (L.set j ⟨L[j].name, v⟩)).flatten, b, ?_, ⟨?_, fun _ => List.getElem?_set_self hb, hr.low, hr.apart, ?_⟩, .inl rfl, by simp, fun q _ _ hq => List.getElem?_set_ne (Ne.symm hq), fun hp => plainH_set hp (nmE.flat_plain _) _⟩
  · refine contract_of k14 mixed (by simp [c14]) fun hh hargs => ?_
    simp [c14]
    refine xloop_ok (D := Nat) (fun q => ⟨[(0, .box i 0), (1, .v (.string (strB L[j].name))), (2, .v (.int .i64 v)), (8, .v (.int .i64 (q : Int)))], [], h, []⟩) (fun q => q ≤ j) (fun q => j - q) 0 (by omega) ?_ ?_
    · simp [Leq, hh, leqH_take, hi]
      done
    · intro q hq
      have hlt : q < L.length := by omega
      obtain ⟨e1, e2, e3, e4, e5⟩ := hr.el hlt
      have hw : IntKind.i64.wrap ((q : Int) + 1) = (q : Int) + 1 := wrap64 (by omega) (by omega)
      by_cases e : L[q].name = L[j].name
      · have := Nm.idx_inj hs hlt hj e
        subst this
        have hsum := nmE.sum L
        have hle : q * 2 + 1 + 1 ≤ L.length * 2 := by omega
        have e3' : ∀ h, (enc nmC L).flatten[q * 2]'h = .v (.string (strB L[q].name)) := fun h => by rw [List.getElem?_eq_getElem h] at e3; injection e3
        have e4' : ∀ h, (enc nmC L).flatten[q * 2 + 1]'h = .v (.int .i64 L[q].id) := fun h => by rw [List.getElem?_eq_getElem h] at e4; injection e4
        simp [e1, e2, e3, e4, e3', e4', hlt, strB_toList, hset, hsum, hle, hh]
        exact .inl (nmE.flat_lt _ _)
      · simp [e1, e2, e3, e4, hlt, strB_toList, e, hw]
        have hqj : q ≠ j := fun e2 => e (by subst e2; rfl)
        refine ⟨q + 1, by omega, by omega, ?_⟩
        · simp [Leq, hh, leqH_take, hi]
  · rw [List.getElem?_set_ne (Ne.symm hr.apart), f1, lisV_some _ _ hL', List.length_set]
  · rw [List.length_set]; exact ltLL_set hr.lt (nmE.flat_lt _ _)
set_option maxHeartbeats 2000000 in
theorem nset_no (hr : NlAt lo h i b most L) (hn : L.length ≤ 1000000) {k : List UInt8} (hk : Nm.get k L = none) (v : Int) : DoesN 14 [.box i 0, .v (.string (strB k)), .v (.int .i64 v)] lo h i b most L (.tup [.v (.int .i64 0), .v (.int .i64 (Nm.err most k L))]) (Nm.set most k v L) := by
  have hi := (List.getElem?_eq_some_iff.1 hr.top).1
  have hno := Nm.get_none.1 hk
  have hlenE : ∀ j, j < L.length → ¬ j = L.length := fun j h => by omega
  by_cases hfull : most ≤ L.length
  · have hf : Nm.full most k L = true := by unfold Nm.full; rw [hk]; simp [hfull]
    have hset : Nm.set most k v L = L := by unfold Nm.set; rw [if_pos hf]
    have herr : Nm.err most k L = 6 := by unfold Nm.err; rw [if_pos hf]
    rw [hset, herr]
    refine ⟨h, b, ?_, hr, .inl rfl, Nat.le_refl _, fun _ _ _ _ => rfl, fun h => h⟩
    refine contract_of k14 mixed (by simp [c14]) fun hh hargs => ?_
    simp [c14]
    refine xloop_ok (D := Nat) (fun q => ⟨[(0, .box i 0), (1, .v (.string (strB k))), (2, .v (.int .i64 v)), (8, .v (.int .i64 (q : Int)))], [], h, []⟩) (fun q => q ≤ L.length) (fun q => L.length - q) 0 (by omega) ?_ ?_
    · simp [Leq, hh, leqH_take, hi]
      done
    · intro q hq
      by_cases hlt : q < L.length
      · obtain ⟨e1, e2, e3, e4, e5⟩ := hr.el hlt
        have hw : IntKind.i64.wrap ((q : Int) + 1) = (q : Int) + 1 := wrap64 (by omega) (by omega)
        have e := hno _ (List.getElem_mem hlt)
        simp [e1, e2, e3, e4, hlt, strB_toList, e, hw]
        refine ⟨q + 1, by omega, by omega, ?_⟩
        simp [Leq, hh, leqH_take, hi]
      · have : q = L.length := by omega
        subst this
        have h1 := hr.top
        by_cases hl : L = []
        · subst hl
          have hm : most = 0 := by simpa using hfull
          simp [lisV, hm] at h1
          simp [h1, hh]
          done
        · rw [lisV_some _ _ hl] at h1
          simp [h1, hh, hfull]
          done
  · have hf : Nm.full most k L = false := by unfold Nm.full; rw [hk]; simp; omega
    have hset : Nm.set most k v L = Nm.ins k v L := by unfold Nm.set; rw [if_neg (by simp [hf]), Nm.put_new hk]
    have herr : Nm.err most k L = 0 := by unfold Nm.err; rw [if_neg (by simp [hf])]
    rw [hset, herr]
    have hp := Nm.at_le k L
    obtain ⟨p, hpp⟩ : ∃ p, p = Nm.at_ k L := ⟨_, rfl⟩
    have hins : Nm.ins k v L = L.take p ++ [⟨k, v⟩] ++ L.drop p := by rw [hpp]; rfl
    have plow : ∀ q (hq : q < L.length), q < p → L[q].name < k := fun q hq h => Nm.at_lt hq (by rw [← hpp]; exact h)
    have phigh : ∀ (hq : p < L.length), ¬ L[p].name < k := fun hq => by subst hpp; exact Nm.at_ge hq
    rw [← hpp] at hp
    rw [hins]
    have F0 : OwnL nmC 2 h h b ([] : List Nm) := OwnL.nil hr.lt b
    have F1 := F0.ap nmE (L.take p)
    have F2 := F1.ap nmE [⟨k, v⟩]
    have F3 := F2.ap nmE (L.drop p)
    simp only [List.nil_append] at F1 F2 F3
    obtain ⟨g1, g2, g3, g4, g5⟩ := hr.own F3 (by simp)
    have q3 := F3.ext i hi
    have w2 : ∀ q ∈ apW (apB h b (L.take p)) (L.take p) [(⟨k, v⟩ : Nm)] [], h.length ≤ q := fun q hq => by
      rcases apW_mem hq with h1 | ⟨h1, h2⟩
      · cases h1
      · rw [h2]; exact (F1.own h1).1
    obtain ⟨W2, hW2⟩ : ∃ W, W = apW (apB h b (L.take p)) (L.take p) [(⟨k, v⟩ : Nm)] [] := ⟨_, rfl⟩
    rw [← hW2] at w2
    obtain ⟨H1, hH1⟩ : ∃ H, H = apH nmC h b [] (L.take p) := ⟨_, rfl⟩
    obtain ⟨b1, hb1⟩ : ∃ b1, b1 = apB h b (L.take p) := ⟨_, rfl⟩
    obtain ⟨H2, hH2⟩ : ∃ H, H = apH nmC H1 b1 (L.take p) [(⟨k, v⟩ : Nm)] := ⟨_, rfl⟩
    obtain ⟨b2, hb2⟩ : ∃ b2, b2 = apB H1 b1 [(⟨k, v⟩ : Nm)] := ⟨_, rfl⟩
    obtain ⟨H3, hH3⟩ : ∃ H, H = apH nmC H2 b2 (L.take p ++ [(⟨k, v⟩ : Nm)]) (L.drop p) := ⟨_, rfl⟩
    obtain ⟨b3, hb3⟩ : ∃ b3, b3 = apB H2 b2 (L.drop p) := ⟨_, rfl⟩
    obtain ⟨W3, hW3⟩ : ∃ W, W = apW b2 (L.take p ++ [(⟨k, v⟩ : Nm)]) (L.drop p) W2 := ⟨_, rfl⟩
    simp only [← hH1, ← hb1, ← hH2, ← hb2, ← hH3, ← hb3] at F1 F2 F3 g1 g2 g3 g4 g5 q3 hW2
    have w3 : ∀ q ∈ W3, h.length ≤ q := fun q hq => by
      rw [hW3] at hq
      rcases apW_mem hq with h1 | ⟨h1, h2⟩
      · exact w2 q h1
      · rw [h2]; exact (F2.own h1).1
    have i2 : i ∉ W2 := fun h1 => by have := w2 i h1; omega
    have i3 : ∀ n, i ∉ W3.take n := fun n h1 => by have := w3 i (List.mem_of_mem_take h1); omega
    refine ⟨_, _, ?_, g1, g2, g3, g4, g5⟩
    refine contract_of k14 mixed (by simp [c14]) fun hh hargs => ?_
    simp [c14]
    refine xloop_ok (D := Nat) (fun q => ⟨[(0, .box i 0), (1, .v (.string (strB k))), (2, .v (.int .i64 v)), (8, .v (.int .i64 (q : Int)))], [], h, []⟩) (fun q => q ≤ L.length) (fun q => L.length - q) 0 (by omega) ?_ ?_
    · simp [Leq, hh, leqH_take, hi]
      done
    · intro q hq
      by_cases hlt : q < L.length
      · obtain ⟨e1, e2, e3, e4, e5⟩ := hr.el hlt
        have hw : IntKind.i64.wrap ((q : Int) + 1) = (q : Int) + 1 := wrap64 (by omega) (by omega)
        have e := hno _ (List.getElem_mem hlt)
        simp [e1, e2, e3, e4, hlt, strB_toList, e, hw]
        refine ⟨q + 1, by omega, by omega, ?_⟩
        simp [Leq, hh, leqH_take, hi]
      · have : q = L.length := by omega
        subst this
        have h1 := hr.top
        have hfin : ∀ d : List (Nat × AV), True := fun _ => trivial
        by_cases hl : L = []
        · subst hl
          have hm : ¬ most = 0 := by simpa using hfull
          simp [lisV] at h1
          have hp0 : p = 0 := by simpa using hp
          subst hp0
          have hx1 : ∀ nul room, IsRows nmC h 2 (.sl 2 [] nul room) (([] : List Nm).take 0) := fun nul room => isRows_sl rfl
          have hx3 : ∀ nul room, IsRows nmC H2 2 (.sl 2 [] nul room) (([] : List Nm).drop 0) := fun nul room => isRows_sl rfl
          simp [h1, hm]
          refine xloop_ok (D := Unit) (fun _ => ⟨[(0, .box i 0), (1, .v (.string (strB k))), (2, .v (.int .i64 v)), (10, .v (.int .i64 0))], [], h, []⟩) (fun _ => True) (fun _ => 0) () trivial ?_ ?_
          · simp [Leq, hh, leqH_take, hi]
            done
          · intro _ _
            simp only [List.take_nil, List.drop_nil, List.nil_append, List.append_nil] at hH1 hb1 hH2 hb2 hH3 hb3 hW2 hW3 hx1 hx3 F1 F2 F3 g1 q3
            simp [h1]
            refine ⟨?_, ?_⟩
            · refine .inl (ap_run nmE (L := ([] : List Nm)) (b := b) (fun h => absurd rfl h) (hx1 _ _) (by simp) (by simp) ?_)
              simp [← hH1, ← hb1]
              refine ap_run nmE (X := [(⟨k, v⟩ : Nm)]) (fun hne => (F1.own hne).2) (isRows_sl rfl) (by simp) (by simp) ?_
              simp [← hH2, ← hb2, ← hW2]
              refine ⟨i2, ap_run nmE (fun hne => (F2.own hne).2) (hx3 _ _) (by simp) (by simp) ?_⟩
              simp [← hH3, ← hb3, ← hW3, i3, q3, h1]
              exact ⟨F3.len, by have := g1.lt; simpa using this, fun a h1 h2 => by have := w3 a h1; omega⟩
            · refine .inl (ap_run nmE (L := ([] : List Nm)) (b := b) (fun h => absurd rfl h) (hx1 _ _) (by simp) (by simp) ?_)
              simp [← hH1, ← hb1]
              refine ap_run nmE (X := [(⟨k, v⟩ : Nm)]) (fun hne => (F1.own hne).2) (isRows_sl rfl) (by simp) (by simp) ?_
              simp [← hH2, ← hb2, ← hW2]
              refine ⟨i2, ap_run nmE (fun hne => (F2.own hne).2) (hx3 _ _) (by simp) (by simp) ?_⟩
              simp [← hH3, ← hb3, ← hW3, i3, q3, h1]
              exact ⟨F3.len, by have := g1.lt; simpa using this, fun a h1 h2 => by have := w3 a h1; omega⟩
        · rw [lisV_some _ _ hl] at h1
          simp [h1, hfull]
          refine xloop_ok (D := Nat) (fun q => ⟨[(0, .box i 0), (1, .v (.string (strB k))), (2, .v (.int .i64 v)), (10, .v (.int .i64 (q : Int)))], [], h, []⟩) (fun q => q ≤ p) (fun q => p - q) 0 (by omega) ?_ ?_
          · simp [Leq, hh, leqH_take, hi]
            done
          · intro q hq
            by_cases hqp : q < p
            · have hlt : q < L.length := by omega
              obtain ⟨e1, e2, e3, e4, e5⟩ := hr.el hlt
              have hw : IntKind.i64.wrap ((q : Int) + 1) = (q : Int) + 1 := wrap64 (by omega) (by omega)
              have e := plow q hlt hqp
              simp [e1, e2, e3, e4, hlt, strB_toList, bLess_eq, e, hw]
              refine ⟨q + 1, by omega, by omega, ?_⟩
              simp [Leq, hh, leqH_take, hi]
            · have : q = p := by omega
              subst this
              have hb0 := hr.list hl
              have hx1 : IsRows nmC h 2 (if (0 : Int) = (q : Int) then .sl 2 [] (some false) .no else .bsl b 0 2 q) (L.take q) := isRows_cut nmE hb0 (lo := 0) (hi := q) (Nat.zero_le _) (by omega) (by omega) (by omega) (by omega)
              have hx3 : IsRows nmC H2 2 (if (q : Int) = (L.length : Int) then .sl 2 [] (some false) .no else .bsl b (q * 2) 2 (L.length - q)) (L.drop q) := by
                have h2b := (F2.ext b (List.getElem?_eq_some_iff.1 hb0).1).trans hb0
                have := isRows_cut nmE h2b (lo := q) (hi := L.length) (by omega) (Nat.le_refl _) (c := (q : Int) = (L.length : Int)) (off := q * 2) (n := L.length - q) (by omega) rfl rfl (nul := some false) (room := .no)
                rwa [List.take_length] at this
              by_cases hlt : q < L.length
              · obtain ⟨e1, e2, e3, e4, e5⟩ := hr.el hlt
                have e := phigh hlt
                simp [e1, e2, e3, e4, hlt, strB_toList, bLess_eq, e]
                refine ⟨by omega, ?_, ?_⟩
                · refine .inl (ap_run nmE (L := ([] : List Nm)) (b := b) (fun h => absurd rfl h) hx1 (by simp; omega) (by simp; omega) ?_)
                  simp [← hH1, ← hb1]
                  refine ap_run nmE (X := [(⟨k, v⟩ : Nm)]) (fun hne => (F1.own hne).2) (isRows_sl rfl) (by simp; omega) (by simp; omega) ?_
                  simp [← hH2, ← hb2, ← hW2]
                  refine ⟨i2, ap_run nmE (fun hne => (F2.own hne).2) hx3 (by simp; omega) (by simp; omega) ?_⟩
                  simp [← hH3, ← hb3, ← hW3, i3, q3, h1]
                  exact ⟨F3.len, by have := g1.lt; simpa using this, fun a h1 h2 => by have := w3 a h1; omega⟩
                · refine .inl (ap_run nmE (L := ([] : List Nm)) (b := b) (fun h => absurd rfl h) hx1 (by simp; omega) (by simp; omega) ?_)
                  simp [← hH1, ← hb1]
                  refine ap_run nmE (X := [(⟨k, v⟩ : Nm)]) (fun hne => (F1.own hne).2) (isRows_sl rfl) (by simp; omega) (by simp; omega) ?_
                  simp [← hH2, ← hb2, ← hW2]
                  refine ⟨i2, ap_run nmE (fun hne => (F2.own hne).2) hx3 (by simp; omega) (by simp; omega) ?_⟩
                  simp [← hH3, ← hb3, ← hW3, i3, q3, h1]
                  exact ⟨F3.len, by have := g1.lt; simpa using this, fun a h1 h2 => by have := w3 a h1; omega⟩
              · have hqe : q = L.length := by omega
                have hqi : (q : Int) = (L.length : Int) := by omega
                have hqn : ¬ (q : Int) < (L.length : Int) := by omega
                simp [h1, hqn]
                refine ⟨by omega, ?_, ?_⟩
                · refine .inl (ap_run nmE (L := ([] : List Nm)) (b := b) (fun h => absurd rfl h) hx1 (by simp; omega) (by simp; omega) ?_)
                  simp [← hH1, ← hb1]
                  refine ap_run nmE (X := [(⟨k, v⟩ : Nm)]) (fun hne => (F1.own hne).2) (isRows_sl rfl) (by simp; omega) (by simp; omega) ?_
                  simp [← hH2, ← hb2, ← hW2]
                  refine ⟨i2, ap_run nmE (fun hne => (F2.own hne).2) hx3 (by simp; omega) (by simp; omega) ?_⟩
                  simp [← hH3, ← hb3, ← hW3, i3, q3, h1]
                  exact ⟨F3.len, by have := g1.lt; simpa using this, fun a h1 h2 => by have := w3 a h1; omega⟩
                · refine .inl (ap_run nmE (L := ([] : List Nm)) (b := b) (fun h => absurd rfl h) hx1 (by simp; omega) (by simp; omega) ?_)
                  simp [← hH1, ← hb1]
                  refine ap_run nmE (X := [(⟨k, v⟩ : Nm)]) (fun hne => (F1.own hne).2) (isRows_sl rfl) (by simp; omega) (by simp; omega) ?_
                  simp [← hH2, ← hb2, ← hW2]
                  refine ⟨i2, ap_run nmE (fun hne => (F2.own hne).2) hx3 (by simp; omega) (by simp; omega) ?_⟩
                  simp [← hH3, ← hb3, ← hW3, i3, q3, h1]
                  exact ⟨F3.len, by have := g1.lt; simpa using this, fun a h1 h2 => by have := w3 a h1; omega⟩
end
end Go.Proofs.Ytphgbfemigcalaa.Ax
/- The document's table over values without memory: New, Set, Delete; the code's and the document's side by side. -/
namespace Go.Proofs.Ytphgbfemigcalaa.Ax
open Go.RowKit Go By
set_option linter.unusedSimpArgs false
set_option linter.unusedVariables false
set_option maxRecDepth 10000

theorem nnew_c {most : Nat} (h1 : 1 ≤ most) (h2 : most ≤ 4096) (h : List (List AV)) : Contract Try.prog 12 [.v (.int .i64 (most : Int))] h (.tup [.box h.length 0, .v (.int .i64 0)]) (h ++ [[.sl 0 [] (some true) .exact, .v (.int .i64 (most : Int))]]) [] := by
  refine contract_of k12 mixed (by simp [c12]) fun hh hargs => ?_
  have n1 : ¬ (most : Int) < 1 := by omega
  have n2 : ¬ (most : Int) > 4096 := by omega
  have hl := ltLL_mono (Nat.le_add_right h.length 1) hh
  simp [c12, n1, n2, hl]
  done
theorem nnew_no {most : Int} (hm : most < 1 ∨ most > 4096) (h : List (List AV)) : Contract Try.prog 12 [.v (.int .i64 most)] h (.tup [.v (.pointer none), .v (.int .i64 1)]) h [] := by
  refine contract_of k12 mixed (by simp [c12]) fun hh hargs => ?_
  by_cases n1 : most < 1
  · simp [c12, n1, hh]
  · have n2 : most > 4096 := by omega
    simp [c12, n1, n2, hh]
section
variable {lo : Nat} {h : List (List AV)} {i b most : Nat} {L : List Nm}
theorem nset_c (hr : NlAt lo h i b most L) (hs : Nm.Rise L) (hn : L.length ≤ 1000000) (k : List UInt8) (v : Int) : DoesN 14 [.box i 0, .v (.string (strB k)), .v (.int .i64 v)] lo h i b most L (.tup [.v (.int .i64 ((Nm.get k L).getD 0)), .v (.int .i64 (Nm.err most k L))]) (Nm.set most k v L) := by
  cases hk : Nm.get k L with
  | none => exact nset_no hr hn hk v
  | some u =>
    obtain ⟨x, hx, h1, h2⟩ := (Nm.get_iff hs).1 hk
    obtain ⟨j, hj, rfl⟩ := List.getElem_of_mem hx
    have hf : Nm.full most k L = false := by unfold Nm.full; rw [hk]; rfl
    have e1 : Nm.set most k v L = Nm.put k v L := by unfold Nm.set; rw [if_neg (by simp [hf])]
    have e2 : Nm.err most k L = 0 := by unfold Nm.err; rw [if_neg (by simp [hf])]
    rw [e1, e2]
    subst h1 h2
    exact nset_at hr hs hn hj v
theorem ndel_at (hr : NlAt lo h i b most L) (hs : Nm.Rise L) (hn : L.length ≤ 1000000) {j : Nat} (hj : j < L.length) : DoesN 16 [.box i 0, .v (.string (strB L[j].name))] lo h i b most L (.tup [.v (.int .i64 L[j].id), .v (.bool true)]) (Nm.del L[j].name L) := by
  have hi := (List.getElem?_eq_some_iff.1 hr.top).1
  have hLne : L ≠ [] := fun e => by rw [e] at hj; cases hj
  have hb0 := hr.list hLne
  rw [Nm.del_idx hs hj]
  have F0 : OwnL nmC 2 h h b ([] : List Nm) := OwnL.nil hr.lt b
  have F1 := F0.ap nmE (L.take j)
  have F2 := F1.ap nmE (L.drop (j + 1))
  simp only [List.nil_append] at F1 F2
  obtain ⟨g1, g2, g3, g4, g5⟩ := hr.own F2 (fun e => by
    obtain ⟨e1, e2⟩ := List.append_eq_nil_iff.1 e
    unfold apB
    rw [if_pos e2, if_pos e1])
  have q2 := F2.ext i hi
  obtain ⟨H1, hH1⟩ : ∃ H, H = apH nmC h b [] (L.take j) := ⟨_, rfl⟩
  obtain ⟨b1, hb1⟩ : ∃ b1, b1 = apB h b (L.take j) := ⟨_, rfl⟩
  obtain ⟨H2, hH2⟩ : ∃ H, H = apH nmC H1 b1 (L.take j) (L.drop (j + 1)) := ⟨_, rfl⟩
  obtain ⟨b2, hb2⟩ : ∃ b2, b2 = apB H1 b1 (L.drop (j + 1)) := ⟨_, rfl⟩
  obtain ⟨W2, hW2⟩ : ∃ W, W = apW b1 (L.take j) (L.drop (j + 1)) [] := ⟨_, rfl⟩
  simp only [← hH1, ← hb1, ← hH2, ← hb2] at F1 F2 g1 g2 g3 g4 g5 q2
  have w2 : ∀ q ∈ W2, h.length ≤ q := fun q hq => by
    rw [hW2] at hq
    rcases apW_mem hq with h1 | ⟨h1, h2⟩
    · cases h1
    · rw [h2]; exact (F1.own h1).1
  have i2 : i ∉ W2 := fun h1 => by have := w2 i h1; omega
  refine ⟨_, _, ?_, g1, g2, g3, g4, g5⟩
  refine contract_of k16 mixed (by simp [c16]) fun hh hargs => ?_
  simp [c16]
  refine xloop_ok (D := Nat) (fun q => ⟨[(0, .box i 0), (1, .v (.string (strB L[j].name))), (6, .v (.int .i64 (q : Int)))], [], h, []⟩) (fun q => q ≤ j) (fun q => j - q) 0 (by omega) ?_ ?_
  · simp [Leq, hh, leqH_take, hi]
    done
  · intro q hq
    have hlt : q < L.length := by omega
    obtain ⟨e1, e2, e3, e4, e5⟩ := hr.el hlt
    have hw : IntKind.i64.wrap ((q : Int) + 1) = (q : Int) + 1 := wrap64 (by omega) (by omega)
    by_cases e : L[q].name = L[j].name
    · have := Nm.idx_inj hs hlt hj e
      subst this
      have hx1 : IsRows nmC h 2 (if (0 : Int) = (q : Int) then .sl 2 [] (some false) .no else .bsl b 0 2 q) (L.take q) := isRows_cut nmE hb0 (lo := 0) (hi := q) (Nat.zero_le _) (by omega) (by omega) (by omega) (by omega)
      have hx2 : IsRows nmC H1 2 (if (q : Int) + 1 = (L.length : Int) then .sl 2 [] (some false) .no else .bsl b ((q + 1) * 2) 2 (L.length - (q + 1))) (L.drop (q + 1)) := by
        have h2b := (F1.ext b (List.getElem?_eq_some_iff.1 hb0).1).trans hb0
        have := isRows_cut nmE h2b (lo := q + 1) (hi := L.length) (by omega) (Nat.le_refl _) (c := (q : Int) + 1 = (L.length : Int)) (off := (q + 1) * 2) (n := L.length - (q + 1)) (by omega) rfl rfl (nul := some false) (room := .no)
        rwa [List.take_length] at this
      have hsub2 : ((L.length : Int) - ((q : Int) + 1)).toNat = L.length - (q + 1) := by omega
      have hqi : (q : Int) < (L.length : Int) := by omega
      simp [e1, e2, e3, e4, hlt, strB_toList, hw, hsub2]
      refine ⟨by omega, by omega, .inl (ap_run nmE (L := ([] : List Nm)) (b := b) (fun h => absurd rfl h) hx1 (by simp; omega) (by simp; omega) ?_)⟩
      simp [← hH1, ← hb1]
      refine ap_run nmE (fun hne => (F1.own hne).2) hx2 (by simp; omega) (by simp; omega) ?_
      simp [← hH2, ← hb2, ← hW2, i2, q2, e1]
      exact ⟨F2.len, by have := g1.lt; simpa using this, fun a h1 h2 => by have := w2 a h1; omega⟩
    · have hqj : q ≠ j := fun e2 => e (by subst e2; rfl)
      simp [e1, e2, e3, e4, hlt, strB_toList, e, hw]
      refine ⟨q + 1, by omega, by omega, ?_⟩
      simp [Leq, hh, leqH_take, hi]
theorem ndel_no (hr : NlAt lo h i b most L) (hn : L.length ≤ 1000000) {k : List UInt8} (hk : Nm.get k L = none) : Contract Try.prog 16 [.box i 0, .v (.string (strB k))] h (.tup [.v (.int .i64 0), .v (.bool false)]) h [i, b] := by
  have hi := (List.getElem?_eq_some_iff.1 hr.top).1
  have hno := Nm.get_none.1 hk
  refine contract_of k16 mixed (by simp [c16]) fun hh hargs => ?_
  simp [c16]
  refine xloop_ok (D := Nat) (fun q => ⟨[(0, .box i 0), (1, .v (.string (strB k))), (6, .v (.int .i64 (q : Int)))], [], h, []⟩) (fun q => q ≤ L.length) (fun q => L.length - q) 0 (by omega) ?_ ?_
  · simp [Leq, hh, leqH_take, hi]
    done
  · intro q hq
    by_cases hlt : q < L.length
    · obtain ⟨e1, e2, e3, e4, e5⟩ := hr.el hlt
      have hw : IntKind.i64.wrap ((q : Int) + 1) = (q : Int) + 1 := wrap64 (by omega) (by omega)
      have e := hno _ (List.getElem_mem hlt)
      simp [e1, e2, e3, e4, hlt, strB_toList, e, hw]
      refine ⟨q + 1, by omega, by omega, ?_⟩
      simp [Leq, hh, leqH_take, hi]
    · have : q = L.length := by omega
      subst this
      have h1 := hr.top
      by_cases hl : L = []
      · subst hl
        simp [lisV] at h1
        simp [h1, hh]
        done
      · rw [lisV_some _ _ hl] at h1
        simp [h1, hh]
        done
theorem ndel_c (hr : NlAt lo h i b most L) (hs : Nm.Rise L) (hn : L.length ≤ 1000000) (k : List UInt8) : DoesN 16 [.box i 0, .v (.string (strB k))] lo h i b most L (.tup [.v (.int .i64 ((Nm.get k L).getD 0)), .v (.bool (Nm.get k L).isSome)]) (Nm.del k L) := by
  cases hk : Nm.get k L with
  | none =>
    have e : Nm.del k L = L := List.eraseP_of_forall_not fun x hx => by have := Nm.get_none.1 hk x hx; simpa using this
    rw [e]
    exact ⟨h, b, ndel_no hr hn hk, hr, .inl rfl, Nat.le_refl _, fun _ _ _ _ => rfl, fun h => h⟩
  | some u =>
    obtain ⟨x, hx, h1, h2⟩ := (Nm.get_iff hs).1 hk
    obtain ⟨j, hj, rfl⟩ := List.getElem_of_mem hx
    subst h1 h2
    exact ndel_at hr hs hn hj
end
/-! ### The two side by side -/
structure Both (T : Tb) (L : List Nm) : Prop where
  ok : TbOk T
  rise : Nm.Rise L
  sim : Nm.Sim T.e L
theorem Both.get {T : Tb} {L : List Nm} (h : Both T L) (k : List UInt8) : Nm.get k L = T.get k := h.sim k
theorem Both.len {T : Tb} {L : List Nm} (h : Both T L) : T.e.length = L.length := h.sim.len h.ok.ok h.rise
theorem Both.few {T : Tb} {L : List Nm} (h : Both T L) : L.length ≤ 4096 := by rw [← h.len]; exact Nat.le_trans h.ok.len h.ok.most.2
theorem Both.full {T : Tb} {L : List Nm} (h : Both T L) (k : List UInt8) : Nm.full T.most k L = T.full k := by unfold Nm.full Tb.full; rw [h.get, h.len]
theorem Both.err {T : Tb} {L : List Nm} (h : Both T L) (k : List UInt8) : Nm.err T.most k L = T.err k := by unfold Nm.err Tb.err; rw [h.full]
theorem Both.old {T : Tb} {L : List Nm} (h : Both T L) (k : List UInt8) : (Nm.get k L).getD 0 = T.old k := by unfold Tb.old; rw [h.get]
theorem Both.set {T : Tb} {L : List Nm} (h : Both T L) (k : List UInt8) (v : Int) : Both (T.set k v) (Nm.set T.most k v L) := by
  refine ⟨h.ok.set k v, ?_, ?_⟩
  · unfold Nm.set
    split
    · exact h.rise
    · exact Nm.rise_put h.rise k v
  · unfold Nm.set Tb.set
    rw [h.full]
    split
    · exact h.sim
    · exact h.sim.put h.ok.ok h.rise k v
theorem Both.del {T : Tb} {L : List Nm} (h : Both T L) (k : List UInt8) : Both (T.del k) (Nm.del k L) :=
  ⟨h.ok.del k, Nm.rise_del h.rise k, h.sim.del h.ok.ok h.rise k⟩
theorem Both.names {T : Tb} {L : List Nm} (h : Both T L) : T.names = L.map Nm.name := h.sim.names h.ok.ok h.rise
theorem both_new (h : List (List AV)) {most : Nat} (h1 : 1 ≤ most) (h2 : most ≤ 4096) : Both (newT h most) [] := ⟨newT_ok h h1 h2, List.Pairwise.nil, fun _ => rfl⟩
end Go.Proofs.Ytphgbfemigcalaa.Ax
/- Layer 15's statement: a table lives as the document's does. -/
namespace Go.Proofs.Ytphgbfemigcalaa.Ax
open Go.RowKit Go By
set_option linter.unusedSimpArgs false
set_option linter.unusedVariables false
set_option maxRecDepth 10000

theorem told_at {T : Tb} {L : List Nm} (hb : Both T L) {j : Nat} (hj : j < L.length) : T.told j = [.v (.string (strB L[j].name)), .v (.int .i64 L[j].id)] := by
  have e : T.nameAt j = L[j].name := by
    unfold Tb.nameAt
    rw [hb.names, List.getD_eq_getElem?_getD, List.getElem?_map, List.getElem?_eq_getElem hj]; rfl
  unfold Tb.told
  rw [e, ← hb.old, Nm.get_at hb.rise hj]; rfl
theorem tsame_c {lo lo' : Nat} {h : List (List AV)} {i ix b : Nat} {T : Tb} {L : List Nm} (hr : TbAt lo h i T) (hx : NlAt lo' h ix b T.most L) (hb : Both T L) (hp : plainH h) : Contract Try.prog 19 [.box i 0, .box ix 0] h (.v (.bool true)) h [] := by
  have hi := hr.i_lt
  have hix := (List.getElem?_eq_some_iff.1 hx.top).1
  have hnl : T.names.length = L.length := by rw [names_len, hb.len]
  have hel2 : T.e.length = L.length := hb.len
  have hfew := hb.few
  have hHl : ltLL h.length h := hr.lt
  refine contract_of k19 mixed (by simp [c19]) fun hh hargs => ?_
  simp [c19]
  refine xcall_self (by simp) (tall_c (by simp; omega)) ?_
  simp
  refine xrange_all (tall_iter (lo := lo) (i := i) hb.ok (h.length + 3) (h.length + 5)) (fun j => h ++ [[.box ix 0], [.v (.bool false)], [.v (.int .i64 (j : Int))], [.box i 0]]) [h.length + 2, h.length + 4] (by simp) (by simp) (fun _ => by simp [XCode.okIn]) (fun _ => by simp [XCode.okIn]) (by simp) (fun j _ => by simp) (fun j _ => ⟨by simp, by simp, ?_, ?_⟩) ?_ (fun j hj => ⟨by simp [Tb.told], by simp [Tb.told], ?_⟩) ?_
  · show TbAt lo ((h ++ [[.box ix 0], [.v (.bool false)], [.v (.int .i64 (j : Int))], [.box i 0]]) ++ [lstate false false]) i T
    rw [List.append_assoc]
    exact hr.app _ (by simp [lstate]; omega)
  · show plainH ((h ++ [[.box ix 0], [.v (.bool false)], [.v (.int .i64 (j : Int))], [.box i 0]]) ++ [lstate false false])
    refine plainH_append (plainH_append hp ?_) ?_
    · intro cs hcs c hc
      simp at hcs
      rcases hcs with rfl | rfl | rfl | rfl <;> simp at hc <;> rw [hc] <;> rfl
    · intro cs hcs c hc
      rw [List.mem_singleton.1 hcs] at hc
      simp [lstate] at hc
      rcases hc with rfl | rfl <;> rfl
  · simp
    exact ⟨ltLL_mono (by omega) hHl, by omega, by omega⟩
  · have hj2 : j < L.length := by omega
    have hw : IntKind.i64.wrap ((j : Int) + 1) = (j : Int) + 1 := wrap64 (by omega) (by omega)
    have hel : ∀ xs, ltLL (h.length + xs.length) xs → _ := fun xs hxs => (hx.app xs hxs).el hj2
    obtain ⟨e1, e2, e3, e4, e5⟩ := hel [[.box ix 0], [.v (.bool false)], [.v (.int .i64 (j : Int))], [.box i 0], lstate true false] (by simp [lstate]; omega)
    have e9 : ¬ (L.length : Int) ≤ (j : Int) := by omega
    rw [told_at hb hj2]
    simp [e1, e2, e3, e4, e9, hj2, hw, strB_toList]
    simp [rnd, stays, St.turn, ltLL_mono (Nat.le_add_right h.length 5) hHl]
    omega
  · have e1 := (hx.app [[.box ix 0], [.v (.bool false)], [.v (.int .i64 (T.names.length : Int))], [.box i 0]] (by simp; omega)).top
    have hrA : TbAt lo (h ++ [[.box ix 0], [.v (.bool false)], [.v (.int .i64 (T.names.length : Int))], [.box i 0]]) i T := hr.app _ (by simp; omega)
    by_cases hL : L = []
    · have hz : T.names.length = 0 := by rw [hnl, hL]; rfl
      have hz2 : T.e.length = 0 := by rw [hel2, hL]; rfl
      subst hL
      rw [hz] at e1 hrA ⊢
      simp [lisV] at e1 hrA
      simp [e1]
      refine xcall_self (by simp) (tlen_c hrA) ?_
      simp [hz2, hh]
      done
    · rw [lisV_some _ _ hL, hnl] at e1
      rw [hnl] at hrA ⊢
      simp [e1]
      refine xcall_self (by simp) (tlen_c hrA) ?_
      simp [hel2, hh]
      done
/-- A step of both, a variable made ahead of it. -/
theorem lw_step {H : List (List AV)} {T T' : Tb} {L L' : List Nm} {b : Nat} (ha : T.a = 0) (tb : TbAt 0 H 1 T) (nl : NlAt 0 H 2 b T.most L) (hout : L ≠ [] → 3 ≤ b) (hp : plainH H) (x : List AV) (hx : ∀ c ∈ x, c.idOf = none) (hxl : ∀ n, ltL n x)
    {ft fn : FuncId} {at_ an : List AV} {rt rn : AV} (hT1 : T'.a = T.a) (hT2 : T'.most = T.most) (hc : TbAt 0 (H ++ [x]) 1 T → Contract Try.prog ft at_ (H ++ [x]) rt ((H ++ [x]).set T.a T'.cells) [T.a]) (hn : ∀ h1 b1, NlAt 0 h1 2 b1 T.most L → DoesN fn an 0 h1 2 b1 T.most L rn L') :
    ∃ h1 h2 b1 b2, Contract Try.prog ft at_ (H ++ [x]) rt h1 [0] ∧ Contract Try.prog fn an h1 rn h2 [2, b1] ∧ TbAt 0 h2 1 T' ∧ NlAt 0 h2 2 b2 T'.most L' ∧ (L' ≠ [] → 3 ≤ b2) ∧ plainH h2 ∧ h1[H.length]? = some x ∧ h2[H.length]? = some x ∧ b1 ≠ H.length ∧ H.length + 1 ≤ h2.length ∧ 3 ≤ H.length ∧ h1.length = H.length + 1 := by
  have tA := tb.app [x] (by simpa using hxl _)
  have ct1 := hc tA
  have tB := tA.to hT1 hT2
  have h2l : 2 < H.length := (List.getElem?_eq_some_iff.1 nl.top).1
  have hal := tb.a_lt
  have hpA : plainH (H ++ [x]) := plainH_append hp fun y hy c hc => by rw [List.mem_singleton.1 hy] at hc; exact hx c hc
  have hpB := plainH_set hpA T'.plain T.a
  obtain ⟨h1, hh1⟩ : ∃ h1, h1 = (H ++ [x]).set T.a T'.cells := ⟨_, rfl⟩
  have hl1 : h1.length = H.length + 1 := by rw [hh1]; simp
  have hs : ∀ q, q ≠ 0 → h1[q]? = (H ++ [x])[q]? := fun q hq => by rw [hh1, List.getElem?_set_ne (by omega)]
  have hxa : h1[H.length]? = some x := by rw [hs _ (by omega)]; simp
  rw [← hh1] at ct1 tB hpB
  have nlB : ∃ b1, NlAt 0 h1 2 b1 T.most L ∧ b1 ≠ H.length ∧ 3 ≤ b1 := by
    by_cases hL : L = []
    · refine ⟨h1.length, ⟨?_, fun e => absurd hL e, ⟨by omega, by omega⟩, by omega, tB.lt⟩, by omega, by omega⟩
      rw [hs 2 (by omega), List.getElem?_append_left (by omega), nl.top]
      subst hL; rfl
    · have hbl := (List.getElem?_eq_some_iff.1 (nl.list hL)).1
      have h3 := hout hL
      exact ⟨b, nl.move (by rw [hs 2 (by omega)]; exact List.getElem?_append_left (by omega)) (fun _ => by rw [hs b (by omega)]; exact List.getElem?_append_left hbl) tB.lt, by omega, h3⟩
  obtain ⟨b1, n1, n2, n3⟩ := nlB
  obtain ⟨h2, b2, ct2, m1, m2, m3, m4, m5⟩ := hn h1 b1 n1
  refine ⟨h1, h2, b1, b2, by rw [ha] at ct1; exact ct1, ct2, tB.move (m4 1 (by omega) (by omega) (by omega)) (m4 _ (by rw [hT1, ha]; omega) (by rw [hT1, ha]; omega) (by rw [hT1, ha]; omega)) m1.lt, by rw [hT2]; exact m1, fun _ => by omega, m5 hpB, hxa, ?_, n2, by omega, by omega, hl1⟩
  rw [m4 H.length (by omega) (by omega) (by omega)]; exact hxa
structure LW where
  H : List (List AV)
  T : Tb
  L : List Nm
  b : Nat
  j : Nat
structure LW.Ok (n : Nat) (d : LW) : Prop where
  le : d.j ≤ n
  a : d.T.a = 0
  tb : TbAt 0 d.H 1 d.T
  nl : NlAt 0 d.H 2 d.b d.T.most d.L
  both : Both d.T d.L
  out : d.L ≠ [] → 3 ≤ d.b
  plain : plainH d.H
def newLW (most : Nat) : LW := ⟨newTH [] most ++ [[.sl 0 [] (some true) .exact, .v (.int .i64 (most : Int))]], newT [] most, [], 3, 0⟩
theorem newLW_ok {most : Nat} (h1 : 1 ≤ most) (h2 : most ≤ 4096) (n : Nat) : LW.Ok n (newLW most) := by
  have t0 := newT_at (h := []) (by simp) most 0 (Nat.le_refl _)
  have t1 := t0.app [[.sl 0 [] (some true) .exact, .v (.int .i64 (most : Int))]] (by simp)
  refine ⟨Nat.zero_le _, rfl, t1, ⟨rfl, fun e => absurd rfl e, ⟨Nat.zero_le _, Nat.zero_le _⟩, by show (2 : Nat) ≠ 3; omega, t1.lt⟩, both_new [] h1 h2, fun e => absurd rfl e, ?_⟩
  intro cs hcs c hc
  have hcs : cs ∈ [(newT [] most).cells, [.mp 0 1 true, .v (.int .i64 (most : Int))], [.sl 0 [] (some true) .exact, .v (.int .i64 (most : Int))]] := hcs
  simp at hcs
  rcases hcs with rfl | rfl | rfl
  · exact Tb.plain _ c hc
  · simp at hc; rcases hc with rfl | rfl <;> rfl
  · simp at hc; rcases hc with rfl | rfl <;> rfl
theorem tlives_c (most : Int) (l : List Td) : Contract Try.prog 3 [.v (.int .i64 most), .sl 3 (enc tdC l) none .no] [] (.v (.bool true)) [] [] := by
  refine contract_of k3 mixed (by simp [c3]) fun hh hargs => ?_
  simp [c3]
  refine xcall_self (by simp) (tawake_c _) ?_
  by_cases hm : most < 1 ∨ most > 4096
  · simp
    refine xcall_self (by simp) (tnew_no hm _) ?_
    simp
    refine xcall_self (by simp) (nnew_no hm _) ?_
    simp
    refine xloop_ok (D := Unit) (fun _ => ⟨[(7, .v (.pointer none)), (45, .sl 3 (enc tdC l) none .no), (46, .v (.int .i64 (l.length : Int))), (47, .v (.int .i64 0))], [], [], []⟩) (fun _ => True) (fun _ => 0) () trivial ?_ ?_
    · simp [Leq, leqH_take]
      done
    · intro _ _
      by_cases hl : 0 < l.length
      · simp [hl, tdC]
        refine xcall_self (by simp) (tawake_c _) ?_
        simp
        done
      · have : l = [] := List.eq_nil_of_length_eq_zero (by omega)
        subst this
        simp
        refine xcall_self (by simp) (tawake_c _) ?_
        simp
        done
  obtain ⟨m, rfl⟩ : ∃ m : Nat, most = (m : Int) := ⟨most.toNat, by omega⟩
  have hm1 : 1 ≤ m := by omega
  have hm2 : m ≤ 4096 := by omega
  simp
  refine xcall_self (by simp) (tnew_c hm1 hm2 _) ?_
  simp
  refine xcall_self (by simp) (nnew_c hm1 hm2 _) ?_
  have hlen0 : (newTH [] m).length = 2 := by simp [newTH]
  have hok0 := newLW_ok hm1 hm2 l.length
  simp [hlen0]
  refine xloop_ok (D := LW) (fun d => ⟨[(5, .box 1 0), (7, .box 2 0), (45, .sl 3 (enc tdC l) none .no), (46, .v (.int .i64 (l.length : Int))), (47, .v (.int .i64 (d.j : Int)))], [], d.H, []⟩) (LW.Ok l.length) (fun d => l.length - d.j) (newLW m) hok0 ?_ ?_
  · have := hok0.tb.lt
    simp [newLW, hlen0] at this
    simp [Leq, newLW, hlen0, this, leqH_take]
    done
  · rintro ⟨H, T, L, b, j⟩ ⟨hj, ha, htb, hnl, hbo, hout, hpl⟩
    dsimp only at hj ha htb hnl hbo hout hpl
    by_cases hlt : j < l.length
    · have hlt2 : (j : Int) < (l.length : Int) := by omega
      simp [hlt, tdC]
      by_cases hj80 : 80 ≤ (j : Int)
      · simp [hj80]
        refine xcall_self (by simp) (tawake_c _) ?_
        simp
        done
      have hw : IntKind.i64.wrap ((j : Int) + 1) = (j : Int) + 1 := wrap64 (by omega) (by omega)
      by_cases hlong : 300 < (l[j].name.length : Int)
      · simp [hj80, strB_size, hlong]
        refine xcall_self (by simp) (tawake_c _) ?_
        simp
        done
      have tdp : ∀ c ∈ tdC l[j], c.idOf = none := fun c hc => by simp [tdC] at hc; rcases hc with rfl | rfl | rfl <;> rfl
      have tdl : ∀ n, ltL n (tdC l[j]) := fun n => by simp [tdC]
      have hfew := hbo.few
      simp [hj80, strB_size, hlong]
      by_cases hop : l[j].op < 3
      · obtain ⟨h1, h2, b1, b2, ct1, ct2, T2, N2, q0, P2, q1, q2, q3, q4, q5, q6⟩ := lw_step ha htb hnl hout hpl (tdC l[j]) tdp tdl (Tb.set_a T l[j].name l[j].id) (Tb.set_most T l[j].name l[j].id) (fun hA => tset_c hA hbo.ok l[j].name (by omega) l[j].id) (fun h1 b1 hX => nset_c hX hbo.rise (by omega) l[j].name l[j].id)
        have hbo' := hbo.set l[j].name l[j].id
        have ha' : (T.set l[j].name l[j].id).a = 0 := (Tb.set_a _ _ _).trans ha
        rw [hbo.old, hbo.err] at ct2
        generalize T.set l[j].name l[j].id = T' at *
        generalize Nm.set T.most l[j].name l[j].id L = L' at *
        have g1 := tget_c T2 l[j].name
        have g2 := nget_c N2 hbo'.rise (by have := hbo'.few; omega) l[j].name
        rw [hbo'.old, hbo'.get] at g2
        have g3 := tsame_c T2 N2 hbo' P2
        simp only [tdC] at ct1 q1 q2
        simp [hop]
        refine xcall_self (by simp) ct1 ?_
        have n0 : ¬ H.length = 0 := by omega
        have n2 : ¬ H.length = 2 := by omega
        have n3 : ¬ H.length = b1 := fun e => q3 e.symm
        simp [q1, n0, n2, n3]
        refine xcall_self (by simp) ct2 ?_
        simp [q2, n0, n2, n3]
        refine xcall_self (by simp) g1 ?_
        simp [q2]
        refine xcall_self (by simp) g2 ?_
        simp
        refine xcall_self (by simp) g3 ?_
        simp [hw]
        refine ⟨⟨h2, T', L', b2, j + 1⟩, ⟨by show j + 1 ≤ l.length; omega, ha', T2, N2, hbo', q0, P2⟩, by show l.length - (j + 1) < l.length - j; omega, ?_⟩
        have hl2 := T2.lt
        simp [Leq, hl2, leqH_take]
        omega
      · obtain ⟨h1, h2, b1, b2, ct1, ct2, T2, N2, q0, P2, q1, q2, q3, q4, q5, q6⟩ := lw_step (T' := T.del l[j].name) ha htb hnl hout hpl (tdC l[j]) tdp tdl rfl rfl (fun hA => tdel_c hA l[j].name) (fun h1 b1 hX => ndel_c hX hbo.rise (by omega) l[j].name)
        have hbo' := hbo.del l[j].name
        have ha' : (T.del l[j].name).a = 0 := ha
        rw [hbo.old, hbo.get] at ct2
        generalize T.del l[j].name = T' at *
        generalize Nm.del l[j].name L = L' at *
        have g1 := tget_c T2 l[j].name
        have g2 := nget_c N2 hbo'.rise (by have := hbo'.few; omega) l[j].name
        rw [hbo'.old, hbo'.get] at g2
        have g3 := tsame_c T2 N2 hbo' P2
        simp only [tdC] at ct1 q1 q2
        simp [hop]
        refine xcall_self (by simp) ct1 ?_
        have n0 : ¬ H.length = 0 := by omega
        have n2 : ¬ H.length = 2 := by omega
        have n3 : ¬ H.length = b1 := fun e => q3 e.symm
        simp [q1, n0, n2, n3]
        refine xcall_self (by simp) ct2 ?_
        simp [q2, n0, n2, n3]
        refine xcall_self (by simp) g1 ?_
        simp [q2]
        refine xcall_self (by simp) g2 ?_
        simp
        refine xcall_self (by simp) g3 ?_
        simp [hw]
        refine ⟨⟨h2, T', L', b2, j + 1⟩, ⟨by show j + 1 ≤ l.length; omega, ha', T2, N2, hbo', q0, P2⟩, by show l.length - (j + 1) < l.length - j; omega, ?_⟩
        have hl2 := T2.lt
        simp [Leq, hl2, leqH_take]
        omega
    · have : j = l.length := by omega
      subst this
      simp
      refine xcall_self (by simp) (tawake_c _) ?_
      simp
      done
theorem tlives_l (most : Int) (l : List Td) (hl : l.length ≤ maxLen ∧ ∀ x ∈ l, OkTd x) : Contract Try.prog 3 [.v (.int .i64 most), .sl 3 (enc tdC l) none .no] [] (.v (.bool true)) [] [] := tlives_c most l
end Go.Proofs.Ytphgbfemigcalaa.Ax
namespace Go.Proofs.Ytphgbfemigcalaa.Ax
open Go.RowKit Go By
set_option linter.unusedSimpArgs false
set_option linter.unusedVariables false
set_option maxRecDepth 10000

def opsOf (l : List En) : List To := l.flatMap En.good
def stepG (name : List UInt8) (g : Option Int) (op : To) : Option Int := if op.name = name then (if op.set = true then some op.id else none) else g
def lookO (name : List UInt8) (g : Option Int) (ops : List To) : Option Int := ops.foldl (stepG name) g
def idsO (ops : List To) : List Int := (ops.filter fun x => x.set).map To.id
def stepL (L : List Nm) (op : To) : List Nm := if op.set = true then Nm.put op.name op.id L else Nm.del op.name L
def viewL (L : List Nm) (ops : List To) : List Nm := ops.foldl stepL L
theorem stepL_rise {L : List Nm} (h : Nm.Rise L) (op : To) : Nm.Rise (stepL L op) := by
  unfold stepL
  split
  · exact Nm.rise_put h _ _
  · exact Nm.rise_del h _
theorem viewL_rise : ∀ {ops : List To} {L : List Nm}, Nm.Rise L → Nm.Rise (viewL L ops)
  | [], _, h => h
  | op :: r, _, h => viewL_rise (ops := r) (stepL_rise h op)
theorem stepL_get {L : List Nm} (h : Nm.Rise L) (op : To) (name : List UInt8) : Nm.get name (stepL L op) = stepG name (Nm.get name L) op := by
  unfold stepL stepG
  by_cases e : name = op.name
  · subst e
    split
    · rw [Nm.get_put h, if_pos rfl]
    · rw [Nm.get_del h, if_pos rfl]
  · have e2 : ¬ op.name = name := fun h => e h.symm
    split
    · rw [Nm.get_put h, if_neg e]
    · rw [Nm.get_del h, if_neg e]
theorem view_get (name : List UInt8) : ∀ {ops : List To} {L : List Nm}, Nm.Rise L → Nm.get name (viewL L ops) = lookO name (Nm.get name L) ops
  | [], _, _ => rfl
  | op :: r, L, h => by
    show Nm.get name (viewL (stepL L op) r) = lookO name (stepG name (Nm.get name L) op) r
    rw [view_get name (ops := r) (stepL_rise h op), stepL_get h]
theorem stepL_len (L : List Nm) (op : To) : (stepL L op).length ≤ L.length + 1 := by
  unfold stepL
  split
  · rw [Nm.put_len]; split <;> omega
  · have : (Nm.del op.name L).length ≤ L.length := (List.eraseP_sublist ..).length_le
    omega
theorem viewL_len : ∀ (ops : List To) (L : List Nm), (viewL L ops).length ≤ L.length + ops.length
  | [], L => by simp [viewL]
  | op :: r, L => by
    have h1 := viewL_len r (stepL L op)
    have h2 := stepL_len L op
    show (viewL (stepL L op) r).length ≤ _
    rw [List.length_cons]; omega
theorem lookO_snoc (name : List UInt8) (g : Option Int) (ops : List To) (op : To) : lookO name g (ops ++ [op]) = stepG name (lookO name g ops) op := by
  unfold lookO; rw [List.foldl_append]; rfl
theorem viewL_snoc (L : List Nm) (ops : List To) (op : To) : viewL L (ops ++ [op]) = stepL (viewL L ops) op := by
  unfold viewL; rw [List.foldl_append]; rfl
theorem viewL_append (L : List Nm) (ops r : List To) : viewL L (ops ++ r) = viewL (viewL L ops) r := by
  unfold viewL; rw [List.foldl_append]
theorem idsO_snoc (ops : List To) (op : To) : idsO (ops ++ [op]) = if op.set = true then idsO ops ++ [op.id] else idsO ops := by
  unfold idsO
  rw [List.filter_append, List.map_append]
  split
  · rename_i h; simp [h]
  · rename_i h; simp [h]
theorem take_snoc {α : Type} {l : List α} {j : Nat} (hj : j < l.length) : l.take (j + 1) = l.take j ++ [l[j]] := by rw [List.take_succ_eq_append_getElem hj]
/-! ### The last of each name -/
def lastS (p : Nat × List (KE To)) (op : To) : Nat × List (KE To) := (KE.tick op.name p.1 p.2, KE.put op.name p.1 op p.2)
def lastO (ops : List To) : Nat × List (KE To) := ops.foldl lastS (0, [])
theorem lastO_snoc (ops : List To) (op : To) : lastO (ops ++ [op]) = lastS (lastO ops) op := by unfold lastO; rw [List.foldl_append]; rfl
theorem snocInd {α : Type} {P : List α → Prop} (h0 : P []) (h1 : ∀ l a, P l → P (l ++ [a])) (l : List α) : P l := by
  have : ∀ m : List α, P m.reverse := by
    intro m
    induction m with
    | nil => exact h0
    | cons a m ih => rw [List.reverse_cons]; exact h1 _ _ ih
  have h := this l.reverse
  rwa [List.reverse_reverse] at h
theorem lastO_ok (ops : List To) : KE.Ok (lastO ops).1 (lastO ops).2 := by
  induction ops using snocInd with
  | h0 => exact ⟨List.nodup_nil, List.nodup_nil, fun x hx => by cases hx⟩
  | h1 l a ih => rw [lastO_snoc]; exact KE.put_ok ih a.name a
theorem lastO_len (ops : List To) : (lastO ops).2.length ≤ ops.length := by
  induction ops using snocInd with
  | h0 => exact Nat.le_refl _
  | h1 l a ih =>
    rw [lastO_snoc]
    show (KE.put a.name (lastO l).1 a (lastO l).2).length ≤ _
    rw [KE.put_len, List.length_append]
    split <;> simp <;> omega
def dlt (has : List UInt8 → Bool) (x : KE To) : Int := if x.val.set = true then (if has x.key = true then 0 else 1) else (if has x.key = true then -1 else 0)
def sumD (has : List UInt8 → Bool) (l : List (KE To)) : Int := (l.map (dlt has)).sum
theorem sumD_append (has : List UInt8 → Bool) (l m : List (KE To)) : sumD has (l ++ m) = sumD has l + sumD has m := by
  unfold sumD; rw [List.map_append, List.sum_append]
theorem sumD_one (has : List UInt8 → Bool) (x : KE To) : sumD has [x] = dlt has x := by unfold sumD; simp
theorem sumD_perm {has : List UInt8 → Bool} {l m : List (KE To)} (h : l.Perm m) : sumD has l = sumD has m := by
  induction h with
  | nil => rfl
  | cons x _ ih => unfold sumD at ih ⊢; simp only [List.map_cons, List.sum_cons, ih]
  | swap x y l => unfold sumD; simp only [List.map_cons, List.sum_cons]; omega
  | trans _ _ h1 h2 => exact h1.trans h2
theorem dlt_bd (has : List UInt8 → Bool) (x : KE To) : -1 ≤ dlt has x ∧ dlt has x ≤ 1 := by
  unfold dlt; repeat' split
  all_goals omega
theorem sumD_bd (has : List UInt8 → Bool) : ∀ l : List (KE To), -(l.length : Int) ≤ sumD has l ∧ sumD has l ≤ l.length
  | [] => by simp [sumD]
  | x :: l => by
    have h1 := sumD_bd has l
    have h2 := dlt_bd has x
    have e : sumD has (x :: l) = dlt has x + sumD has l := by unfold sumD; simp
    rw [e, List.length_cons]
    omega
theorem sumD_upd {has : List UInt8 → Bool} {k : List UInt8} {v : To} : ∀ {l : List (KE To)}, (l.map KE.key).Nodup → ∀ {s : KE To}, s ∈ l → s.key = k → sumD has (l.map (KE.upd k v)) + dlt has s = sumD has l + dlt has (KE.upd k v s)
  | x :: l, hn, s, hs, hk => by
    rw [List.map_cons, List.nodup_cons] at hn
    have e : ∀ (y : KE To) (m : List (KE To)), sumD has (y :: m) = dlt has y + sumD has m := fun y m => by unfold sumD; simp
    rw [List.map_cons, e, e]
    rcases List.mem_cons.1 hs with h | h
    · subst h
      rw [KE.upd_other (k := k) (l := l) fun y hy e2 => hn.1 (List.mem_map.2 ⟨y, hy, e2.trans hk.symm⟩)]
      omega
    · have hx : KE.upd k v x = x := by
        unfold KE.upd
        rw [if_neg (fun e2 => hn.1 (List.mem_map.2 ⟨s, h, hk.trans e2.symm⟩))]
      have := sumD_upd (has := has) (v := v) hn.2 h hk
      rw [hx]
      omega
theorem del_len_eq {L : List Nm} (h : Nm.Rise L) (k : List UInt8) : (Nm.del k L).length + (if (Nm.get k L).isSome = true then 1 else 0) = L.length := by
  cases hg : Nm.get k L with
  | none =>
    have e : Nm.del k L = L := List.eraseP_of_forall_not fun x hx => by have := Nm.get_none.1 hg x hx; simpa using this
    rw [e]; simp
  | some u =>
    obtain ⟨x, hx, h1, h2⟩ := (Nm.get_iff h).1 hg
    obtain ⟨j, hj, rfl⟩ := List.getElem_of_mem hx
    subst h1
    rw [Nm.del_idx h hj]
    simp
    omega
theorem many_eq {L : List Nm} (hr : Nm.Rise L) (ops : List To) :
    ((viewL L ops).length : Int) = L.length + sumD (fun k => (Nm.get k L).isSome) (lastO ops).2 ∧ ∀ k, (Nm.get k (viewL L ops)).isSome = (match KE.get k (lastO ops).2 with | some op => op.set | none => (Nm.get k L).isSome) := by
  induction ops using snocInd with
  | h0 => exact ⟨by simp [viewL, lastO, sumD], fun k => rfl⟩
  | h1 ops op ih =>
    obtain ⟨h1, h2⟩ := ih
    have hv := viewL_rise (ops := ops) hr
    have hok := lastO_ok ops
    rw [viewL_snoc, lastO_snoc]
    generalize viewL L ops = V at *
    generalize lastO ops = la at *
    obtain ⟨c, la⟩ := la
    dsimp only at h1 h2 hok ⊢
    refine ⟨?_, fun k => ?_⟩
    · show ((stepL V op).length : Int) = L.length + sumD _ (KE.put op.name c op la)
      have hk := h2 op.name
      have hlen : ((stepL V op).length : Int) = V.length + (if op.set = true then (if (Nm.get op.name V).isSome = true then 0 else 1) else (if (Nm.get op.name V).isSome = true then -1 else 0)) := by
        unfold stepL
        cases op.set with
        | true =>
          simp only [if_true]
          rw [Nm.put_len]
          split <;> simp
        | false =>
          have := del_len_eq hv op.name
          cases hs : (Nm.get op.name V).isSome with
          | true => rw [hs] at this; simp at this ⊢; omega
          | false => rw [hs] at this; simp at this ⊢; omega
      rw [hlen, h1]
      unfold KE.put
      cases hf : KE.find op.name la with
      | none =>
        have hg : KE.get op.name la = none := by unfold KE.get; rw [hf]; rfl
        rw [hg] at hk
        simp only [Option.isSome_none, Bool.false_eq_true, if_false]
        rw [sumD_append, sumD_one, hk]
        unfold dlt
        dsimp only
        omega
      | some s =>
        obtain ⟨hs1, hs2⟩ := KE.find_mem hf
        have hg : KE.get op.name la = some s.val := by unfold KE.get; rw [hf]; rfl
        rw [hg] at hk
        simp only [Option.isSome_some, if_true]
        have hu := sumD_upd (has := fun k => (Nm.get k L).isSome) (v := op) hok.keys hs1 hs2
        have hupd : KE.upd op.name op s = { s with val := op } := by unfold KE.upd; rw [if_pos hs2]
        rw [hupd] at hu
        unfold dlt at hu
        dsimp only at hu hk
        rw [hk]
        generalize sumD (fun k => (Nm.get k L).isSome) (la.map (KE.upd op.name op)) = A at *
        generalize sumD (fun k => (Nm.get k L).isSome) la = B at *
        rcases Bool.eq_false_or_eq_true (Nm.get s.key L).isSome with hx | hx <;> rcases Bool.eq_false_or_eq_true op.set with h3 | h3 <;> rcases Bool.eq_false_or_eq_true s.val.set with h4 | h4 <;> simp only [hx, h3, h4, if_true, if_false, Bool.false_eq_true] at hu ⊢ <;> omega
    · show (Nm.get k (stepL V op)).isSome = (match KE.get k (KE.put op.name c op la) with | some op => op.set | none => (Nm.get k L).isSome)
      rw [stepL_get hv, KE.get_put hok]
      unfold stepG
      by_cases e : k = op.name
      · subst e
        simp only [if_true]
        cases op.set <;> rfl
      · rw [if_neg e, if_neg (fun e2 => e e2.symm)]
        exact h2 k
/-! ### Names changed for good -/
def addH (x : Int) (had : List Int) : List Int := if 0 < x then had ++ [x] else had
def Tb.step (T : Tb) (op : To) : Tb := if op.set = true then T.set op.name op.id else T.del op.name
def Tb.errO (T : Tb) (op : To) : Int := if op.set = true then T.err op.name else 0
def appT (T : Tb) : List To → List Int → Tb × List Int × Int
  | [], had => (T, had, 0)
  | op :: r, had => if T.errO op = 0 then appT (T.step op) r (addH (T.old op.name) had) else (T.step op, had, T.errO op)
theorem Tb.step_a (T : Tb) (op : To) : (T.step op).a = T.a := by unfold Tb.step; split; exact Tb.set_a _ _ _; rfl
theorem Tb.step_most (T : Tb) (op : To) : (T.step op).most = T.most := by unfold Tb.step; split; exact Tb.set_most _ _ _; rfl
theorem appT_a : ∀ (ops : List To) (T : Tb) (had : List Int), (appT T ops had).1.a = T.a ∧ (appT T ops had).1.most = T.most
  | [], T, _ => ⟨rfl, rfl⟩
  | op :: r, T, had => by
    unfold appT
    split
    · have := appT_a r (T.step op) (addH (T.old op.name) had)
      rw [Tb.step_a, Tb.step_most] at this; exact this
    · exact ⟨Tb.step_a T op, Tb.step_most T op⟩
def stepM (most : Nat) (L : List Nm) (op : To) : List Nm := if op.set = true then Nm.set most op.name op.id L else Nm.del op.name L
theorem Both.step {T : Tb} {L : List Nm} (h : Both T L) (op : To) : Both (T.step op) (stepM T.most L op) := by
  unfold Tb.step stepM
  split
  · exact h.set _ _
  · exact h.del _
theorem stepM_ok {T : Tb} {L : List Nm} (h : Both T L) {op : To} (he : T.errO op = 0) : stepM T.most L op = stepL L op := by
  unfold stepM stepL
  cases hs : op.set with
  | false => rfl
  | true =>
    simp only [if_true]
    unfold Tb.errO at he
    rw [if_pos hs] at he
    unfold Tb.err at he
    unfold Nm.set
    rw [h.full]
    split
    · rename_i hf; rw [if_pos hf] at he; omega
    · rfl
theorem errO_six (T : Tb) (op : To) (h : T.errO op ≠ 0) : T.errO op = 6 := by
  unfold Tb.errO Tb.err at *
  split at h
  · split at h
    · rename_i h1 h2; rw [if_pos h1, if_pos h2]
    · exact absurd rfl h
  · exact absurd rfl h
end Go.Proofs.Ytphgbfemigcalaa.Ax
