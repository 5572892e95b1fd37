/- The document's portals over values without memory: Put. -/
import Derived.Test.YtmdapcmdlblnnaaQAxSg
import Derived.Test.YtmdapcmdlblnnaaQAxIb
import Derived.Test.YtmdapcmdlblnnaaQAxPk
import Derived.Test.YtmdapcmdlblnnaaQAxSt
/- Lists in variables over values without memory: slices that are built by append onto nil, whose elements have two cells or more. No program is named here. -/
namespace Go.Proofs.Ytmdapcmdlblnnaa.Ax
open Go.RowKit Go By
set_option linter.unusedSimpArgs false
set_option linter.unusedVariables false
set_option maxRecDepth 10000

structure Elt {α : Type} (f : α → List AV) (k : Nat) : Prop where
  two : 2 ≤ k
  len : ∀ a, (f a).length = k
  plain : ∀ a, ∀ c ∈ f a, c.idOf = none
  lt : ∀ a n, ltL n (f a)
section
variable {α : Type} {f : α → List AV} {k : Nat}
theorem Elt.flat_len (he : Elt f k) (l : List α) : (enc f l).flatten.length = l.length * k := by
  induction l with
  | nil => simp
  | cons x l ih =>
    have e : enc f (x :: l) = f x :: enc f l := rfl
    rw [e, List.flatten_cons, List.length_append, ih, he.len, List.length_cons, Nat.add_mul]; omega
theorem Elt.sum (he : Elt f k) (l : List α) : (List.map List.length (enc f l)).sum = l.length * k := by rw [← List.length_flatten]; exact he.flat_len l
theorem Elt.at_ (he : Elt f k) : ∀ {l : List α} {j q : Nat} (hj : j < l.length) (hq : q < k), (enc f l).flatten[j * k + q]? = (f l[j])[q]?
  | x :: l, 0, q, _, hq => by
    have e : enc f (x :: l) = f x :: enc f l := rfl
    rw [e, List.flatten_cons, List.getElem?_append_left (by rw [he.len]; omega)]
    simp
  | x :: l, j + 1, q, hj, hq => by
    have e : enc f (x :: l) = f x :: enc f l := rfl
    have e1 : (j + 1) * k + q = k + (j * k + q) := by rw [Nat.add_mul]; omega
    rw [e, e1, List.flatten_cons, List.getElem?_append_right (by rw [he.len]; omega), he.len, show k + (j * k + q) - k = j * k + q by omega, he.at_ (by simpa using hj) hq]
    simp
theorem Elt.set (he : Elt f k) : ∀ {l : List α} {j q : Nat} (hj : j < l.length) (hq : q < k) (c : AV) (a : α), f a = (f l[j]).set q c → (enc f l).flatten.set (j * k + q) c = (enc f (l.set j a)).flatten
  | x :: l, 0, q, _, hq, c, a, ha => by
    have e : enc f (x :: l) = f x :: enc f l := rfl
    rw [e, List.flatten_cons, List.set_append_left _ _ (by rw [he.len]; omega)]
    have e2 : enc f ((x :: l).set 0 a) = f a :: enc f l := rfl
    rw [e2, List.flatten_cons, ha]
    simp
  | x :: l, j + 1, q, hj, hq, c, a, ha => by
    have e : enc f (x :: l) = f x :: enc f l := rfl
    have e1 : (j + 1) * k + q = k + (j * k + q) := by rw [Nat.add_mul]; omega
    rw [e, e1, List.flatten_cons, List.set_append_right _ _ (by rw [he.len]; omega), he.len, show k + (j * k + q) - k = j * k + q by omega, he.set (by simpa using hj) hq c a (by simpa using ha)]
    rfl
theorem Elt.take (he : Elt f k) : ∀ (l : List α) (j : Nat), (enc f l).flatten.take (j * k) = (enc f (l.take j)).flatten
  | [], j => by simp [enc]
  | x :: l, 0 => by simp [enc]
  | x :: l, j + 1 => by
    have e : enc f (x :: l) = f x :: enc f l := rfl
    have e2 : enc f (x :: l.take j) = f x :: enc f (l.take j) := rfl
    have e3 : (j + 1) * k = k + j * k := by rw [Nat.add_mul]; omega
    rw [List.take_succ_cons, e, e2, e3, List.flatten_cons, List.flatten_cons, List.take_append, he.len, show k + j * k - k = j * k by omega, he.take l j, List.take_of_length_le (by rw [he.len]; omega)]
theorem Elt.drop (he : Elt f k) : ∀ (l : List α) (j : Nat), (enc f l).flatten.drop (j * k) = (enc f (l.drop j)).flatten
  | [], j => by simp [enc]
  | x :: l, 0 => by simp [enc]
  | x :: l, j + 1 => by
    have e : enc f (x :: l) = f x :: enc f l := rfl
    have e3 : (j + 1) * k = k + j * k := by rw [Nat.add_mul]; omega
    rw [List.drop_succ_cons, e, e3, List.flatten_cons, List.drop_append, he.len, show k + j * k - k = j * k by omega, he.drop l j, List.drop_of_length_le (by rw [he.len]; omega), List.nil_append]
theorem Elt.flat_plain (he : Elt f k) (l : List α) : ∀ c ∈ (enc f l).flatten, c.idOf = none := fun c hc => by
  obtain ⟨e, he2, hc⟩ := List.mem_flatten.1 hc
  obtain ⟨s, _, rfl⟩ := List.mem_map.1 he2
  exact he.plain s c hc
theorem Elt.flat_lt (he : Elt f k) (n : Nat) (l : List α) : ltL n (enc f l).flatten := ltL_of fun j c hj => by
  obtain ⟨e, he2, hc⟩ := List.mem_flatten.1 (List.mem_of_getElem? hj)
  obtain ⟨s, _, rfl⟩ := List.mem_map.1 he2
  obtain ⟨q, hq⟩ := List.getElem?_of_mem hc
  exact ltL_get (he.lt s n) q c hq
/-- A list's slice: nil, or a variable's. -/
def lisV (k b : Nat) : List α → AV
  | [] => .sl 0 [] (some true) .exact
  | x :: l => .bsl b 0 k (x :: l).length
theorem lisV_some (k b : Nat) {l : List α} (h : l ≠ []) : lisV k b l = .bsl b 0 k l.length := by cases l with | nil => exact absurd rfl h | cons _ _ => rfl
@[simp] theorem lisV_cells (k b : Nat) (l : List α) : (lisV k b l).cells = some [lisV k b l] := by cases l <;> rfl
@[simp] theorem lisV_unown (k b : Nat) (l : List α) : (lisV k b l).unown = lisV k b l := by cases l <;> rfl
@[simp] theorem lisV_id (k b : Nat) (l : List α) : (lisV k b l).idOf = none := by cases l <;> rfl
theorem lisV_lt {k b n : Nat} {l : List α} (h : l ≠ [] → b < n) : (lisV k b l).lt n := by
  cases l with
  | nil => exact trivial
  | cons x l => exact h (by simp)
/-- What is appended is these. -/
def IsRows (f : α → List AV) (h : List (List AV)) (k : Nat) (x : AV) (X : List α) : Prop :=
  (X ≠ [] ∧ rowsOf h k x = some (enc f X)) ∨ (X = [] ∧ match x with | .sl _ es _ _ => es = [] | .bsl _ _ _ m => m = 0 | _ => False)
theorem rows_cut (he : Elt f k) {H : List (List AV)} {b : Nat} {l : List α} (hb : H[b]? = some (enc f l).flatten) {lo hi : Nat} (h1 : lo ≤ hi) (h2 : hi ≤ l.length) : rowsOf H k (.bsl b (lo * k) k (hi - lo)) = some (enc f ((l.take hi).drop lo)) := by
  show (if k = k then (H[b]?).bind fun cs => if lo * k + (hi - lo) * k ≤ cs.length then some (chunk k (hi - lo) ((cs.drop (lo * k)).take ((hi - lo) * k))) else none else none) = _
  rw [if_pos rfl, hb]
  have hle : lo * k + (hi - lo) * k ≤ l.length * k := by
    rw [← Nat.add_mul]; exact Nat.mul_le_mul_right k (by omega)
  show (if lo * k + (hi - lo) * k ≤ (enc f l).flatten.length then some (chunk k (hi - lo) (((enc f l).flatten.drop (lo * k)).take ((hi - lo) * k))) else none) = _
  rw [if_pos (by rw [he.flat_len]; exact hle), he.drop, he.take]
  have e : (l.drop lo).take (hi - lo) = (l.take hi).drop lo := by rw [List.drop_take]
  have hl : ((l.take hi).drop lo).length = hi - lo := by simp; omega
  rw [e]
  have := chunk_flat he.len ((l.take hi).drop lo)
  rw [hl] at this
  rw [this]
/-- A cut of a list's slice. -/
theorem isRows_cut (he : Elt f k) {H : List (List AV)} {b : Nat} {l : List α} (hb : H[b]? = some (enc f l).flatten) {lo hi : Nat} (h1 : lo ≤ hi) (h2 : hi ≤ l.length) {c : Prop} [Decidable c] (hc : c ↔ lo = hi) {off n : Nat} (ho : off = lo * k) (hn : n = hi - lo) {nul : Option Bool} {room : Room} :
    IsRows f H k (if c then .sl k [] nul room else .bsl b off k n) ((l.take hi).drop lo) := by
  subst ho hn
  have hl : ((l.take hi).drop lo).length = hi - lo := by simp; omega
  by_cases e : lo = hi
  · rw [if_pos (hc.2 e)]
    exact .inr ⟨List.eq_nil_of_length_eq_zero (by omega), rfl⟩
  · rw [if_neg (fun h => e (hc.1 h))]
    exact .inl ⟨fun h => by rw [h] at hl; simp at hl; omega, rows_cut he hb h1 h2⟩
theorem isRows_bsl (he : Elt f k) {H : List (List AV)} {b : Nat} {l : List α} (hb : H[b]? = some (enc f l).flatten) {lo hi : Nat} (h1 : lo ≤ hi) (h2 : hi ≤ l.length) {off n : Nat} (ho : off = lo * k) (hn : n = hi - lo) :
    IsRows f H k (.bsl b off k n) ((l.take hi).drop lo) := by
  subst ho hn
  have hl : ((l.take hi).drop lo).length = hi - lo := by simp; omega
  by_cases e : lo = hi
  · exact .inr ⟨List.eq_nil_of_length_eq_zero (by omega), by show hi - lo = 0; omega⟩
  · exact .inl ⟨fun h => by rw [h] at hl; simp at hl; omega, rows_cut he hb h1 h2⟩
theorem isRows_sl {H : List (List AV)} {X : List α} {es : List (List AV)} {nul : Option Bool} {room : Room} (h : es = enc f X) : IsRows f H k (.sl k es nul room) X := by
  subst h
  cases X with
  | nil => exact .inr ⟨rfl, rfl⟩
  | cons x X => exact .inl ⟨by simp, by show (if k = k then _ else _) = _; rw [if_pos rfl]⟩
def apH (f : α → List AV) (h : List (List AV)) (b : Nat) (L X : List α) : List (List AV) := if X = [] then h else if L = [] then h ++ [(enc f X).flatten] else h.set b [] ++ [(enc f (L ++ X)).flatten]
def apB (h : List (List AV)) (b : Nat) (X : List α) : Nat := if X = [] then b else h.length
def apW (b : Nat) (L X : List α) (wr : List Nat) : List Nat := if X = [] then wr else if L = [] then wr else b :: wr
theorem ap_run (he : Elt f k) {s : St} {b bytes : Nat} {d : Option Nat} {L X : List α} {x : AV} {K : St → List Nat → Prop} (hb : L ≠ [] → s.heap[b]? = some (enc f L).flatten) (hx : IsRows f s.heap k x X) (h1 : (L.length + X.length) * bytes ≤ 140737488355328) (h2 : L.length + X.length ≤ 140737488355328)
    (hK : K (({ s with heap := apH f s.heap b L X, wr := apW b L X s.wr } : St).puts d (lisV k (apB s.heap b X) (L ++ X)) false) []) : xappendA s k bytes d (lisV k b L) x K := by
  have ht := he.two
  rcases hx with ⟨hX, hr⟩ | ⟨hX, hr⟩
  · unfold apH apW apB at hK
    rw [if_neg hX, if_neg hX, if_neg hX, lisV_some _ _ (by simp [hX])] at hK
    have hne : enc f X ≠ [] := fun e => hX (List.eq_nil_of_length_eq_zero (by have := congrArg List.length e; simpa using this))
    have hel : (enc f X).length = X.length := by simp
    cases L with
    | nil =>
      rw [if_pos rfl, if_pos rfl] at hK
      refine .inr (.inl ⟨_, hr, hne, he.flat_plain X, ?_⟩)
      show (_ ∧ (enc f X).length * bytes ≤ _ ∧ (enc f X).length ≤ _ ∧ _) ∨ _
      rw [hel]
      simp only [List.length_nil, Nat.zero_add, List.nil_append] at h1 h2 hK
      exact .inl ⟨.inl rfl, h1, h2, hK⟩
    | cons y L =>
      rw [if_neg (by simp), if_neg (by simp)] at hK
      refine .inr (.inl ⟨_, hr, hne, he.flat_plain X, ?_⟩)
      have hfl := he.flat_len (y :: L)
      show k = k ∧ _
      refine ⟨rfl, _, hb (by simp), fun e => ?_, by rw [hfl, Nat.zero_add]; exact Nat.le_refl _, he.flat_plain _, by rw [hel]; exact h1, by rw [hel]; exact h2, ?_⟩
      · rw [e] at hfl; simp [Nat.add_mul] at hfl; omega
      · rw [hel, List.drop_zero, List.take_of_length_le (by rw [hfl]; exact Nat.le_refl _)]
        have e : enc f (y :: L ++ X) = enc f (y :: L) ++ enc f X := by simp [enc]
        rw [e, List.flatten_append, List.length_append] at hK
        exact hK
  · subst hX
    unfold apH apW apB at hK
    rw [if_pos rfl, if_pos rfl, if_pos rfl, List.append_nil] at hK
    cases L with
    | nil => exact .inr (.inr ⟨hr, .inl ⟨ht, rfl, hK⟩⟩)
    | cons y L => exact .inr (.inr ⟨hr, ht, hK⟩)
/-- A list of one's own behind a heap. -/
structure OwnL (f : α → List AV) (k : Nat) (h0 h : List (List AV)) (b : Nat) (L : List α) : Prop where
  len : h0.length ≤ h.length
  ext : ∀ q < h0.length, h[q]? = h0[q]?
  lt : ltLL h.length h
  plain : plainH h0 → plainH h
  own : L ≠ [] → h0.length ≤ b ∧ h[b]? = some (enc f L).flatten
theorem OwnL.nil {h : List (List AV)} (hh : ltLL h.length h) (b : Nat) : OwnL f k h h b ([] : List α) := ⟨Nat.le_refl _, fun _ _ => rfl, hh, fun h => h, fun h => absurd rfl h⟩
theorem OwnL.ap (he : Elt f k) {h0 h : List (List AV)} {b : Nat} {L : List α} (hF : OwnL f k h0 h b L) (X : List α) : OwnL f k h0 (apH f h b L X) (apB h b X) (L ++ X) := by
  unfold apH apB
  by_cases hX : X = []
  · subst hX
    rw [if_pos rfl, if_pos rfl, List.append_nil]; exact hF
  · rw [if_neg hX, if_neg hX]
    by_cases hL : L = []
    · subst hL
      rw [if_pos rfl]
      refine ⟨by have := hF.len; simp; omega, fun q hq => ?_, ?_, fun hp => plainH_append (hF.plain hp) ?_, fun _ => ⟨hF.len, by simp⟩⟩
      · rw [List.getElem?_append_left (by have := hF.len; omega)]; exact hF.ext q hq
      · rw [List.length_append]
        exact ltLL_append.2 ⟨ltLL_mono (Nat.le_add_right _ _) hF.lt, by simp; exact he.flat_lt _ _⟩
      · intro x hx; rw [List.mem_singleton.1 hx]; exact he.flat_plain X
    · rw [if_neg hL]
      obtain ⟨hb1, hb2⟩ := hF.own hL
      refine ⟨by have := hF.len; simp; omega, fun q hq => ?_, ?_, fun hp => plainH_append (plainH_set (hF.plain hp) (fun c hc => by cases hc) _) ?_, fun _ => ⟨hF.len, by simp⟩⟩
      · rw [List.getElem?_append_left (by have := hF.len; simp; omega), List.getElem?_set_ne (by omega)]; exact hF.ext q hq
      · rw [List.length_append, List.length_set]
        exact ltLL_append.2 ⟨ltLL_set (ltLL_mono (Nat.le_add_right _ _) hF.lt) (by simp), by simp; simpa using he.flat_lt _ (L ++ X)⟩
      · intro x hx; rw [List.mem_singleton.1 hx]; exact he.flat_plain _
@[simp] theorem apW_nil (b : Nat) (X : List α) (wr : List Nat) : apW b [] X wr = wr := by unfold apW; split <;> rfl
theorem apW_mem {b : Nat} {L X : List α} {wr : List Nat} {q : Nat} (h : q ∈ apW b L X wr) : q ∈ wr ∨ (L ≠ [] ∧ q = b) := by
  unfold apW at h
  split at h
  · exact .inl h
  · split at h
    · exact .inl h
    · rename_i hL
      rcases List.mem_cons.1 h with h | h
      · exact .inr ⟨hL, h⟩
      · exact .inl h
end
end Go.Proofs.Ytmdapcmdlblnnaa.Ax
/- The document's portals over values without memory. -/
namespace Go.Proofs.Ytmdapcmdlblnnaa.Ax
open Go.RowKit Go By
set_option linter.unusedSimpArgs false
set_option linter.unusedVariables false
set_option maxRecDepth 10000

abbrev Sl28 := Sn Pt
def slC (s : Sl28) : List AV := .v (.string (strB s.name)) :: ptV s.val
theorem slE : Elt slC 7 := ⟨by omega, fun _ => rfl, fun a c hc => by
  rcases List.mem_cons.1 hc with rfl | hc
  · rfl
  · exact ptC_id rfl c hc, fun a n => by simp [slC, ptV, ptC]⟩
structure PdAt (h : List (List AV)) (i b : Nat) (L : List Sl28) : Prop where
  top : h[i]? = some [lisV 7 b L]
  list : L ≠ [] → h[b]? = some (enc slC L).flatten
  apart : L ≠ [] → i ≠ b
  lt : ltLL h.length h
section
variable {h : List (List AV)} {i b : Nat} {L : List Sl28}
theorem PdAt.i_lt (hr : PdAt h i b L) : i < h.length := (List.getElem?_eq_some_iff.1 hr.top).1
theorem PdAt.b_lt (hr : PdAt h i b L) (hne : L ≠ []) : b < h.length := (List.getElem?_eq_some_iff.1 (hr.list hne)).1
theorem PdAt.move (hr : PdAt h i b L) {h' : List (List AV)} (hi : h'[i]? = h[i]?) (hb : L ≠ [] → h'[b]? = h[b]?) (hlt : ltLL h'.length h') : PdAt h' i b L :=
  ⟨hi.trans hr.top, fun hne => (hb hne).trans (hr.list hne), hr.apart, hlt⟩
theorem PdAt.app (hr : PdAt h i b L) (xs : List (List AV)) (hx : ltLL (h.length + xs.length) xs) : PdAt (h ++ xs) i b L :=
  hr.move (List.getElem?_append_left hr.i_lt) (fun hne => List.getElem?_append_left (hr.b_lt hne)) (by rw [ltLL_append, List.length_append]; exact ⟨ltLL_mono (Nat.le_add_right _ _) hr.lt, hx⟩)
theorem slot_cut : ∀ (L : List Sl28) (j : Nat) (hj : j < L.length), ((enc slC L).flatten.drop (j * 7 + 1)).take 6 = ptV L[j].val
  | x :: L, 0, _ => by
    have e : (enc slC (x :: L)).flatten = slC x ++ (enc slC L).flatten := rfl
    rw [e]; rfl
  | x :: L, j + 1, hj => by
    have e : (enc slC (x :: L)).flatten = slC x ++ (enc slC L).flatten := rfl
    have hl : (slC x).length = 7 := rfl
    rw [e, show (j + 1) * 7 + 1 = 7 + (j * 7 + 1) by omega, List.drop_append, hl, List.drop_of_length_le (by rw [hl]; omega), List.nil_append, show 7 + (j * 7 + 1) - 7 = j * 7 + 1 by omega]
    exact slot_cut L j (by simpa using hj)
structure ElAt (h : List (List AV)) (i b : Nat) (L : List Sl28) (j : Nat) (s : Sl28) : Prop where
  top : h[i]? = some [.bsl b 0 7 L.length]
  list : h[b]? = some (enc slC L).flatten
  name : (enc slC L).flatten[j * 7]? = some (.v (.string (strB s.name)))
  rows : (enc slC L).flatten[j * 7 + 4]? = some (.sl 1 (enc rowKC s.val.rows) none .no)
  ran : (enc slC L).flatten[j * 7 + 5]? = some (.v (.bool s.val.ran))
  over : (enc slC L).flatten[j * 7 + 6]? = some (.v (.bool s.val.over))
  len : (enc slC L).flatten.length = L.length * 7
theorem PdAt.el (hr : PdAt h i b L) {j : Nat} (hj : j < L.length) : ElAt h i b L j L[j] := by
  have hne : L ≠ [] := fun e => by rw [e] at hj; cases hj
  have h1 := hr.top
  rw [lisV_some _ _ hne] at h1
  have e0 := slE.at_ hj (q := 0) (by omega)
  rw [Nat.add_zero] at e0
  exact ⟨h1, hr.list hne, e0, slE.at_ hj (q := 4) (by omega), slE.at_ hj (q := 5) (by omega), slE.at_ hj (q := 6) (by omega), slE.flat_len _⟩
theorem dplace_at (hr : PdAt h i b L) (hs : Sn.Rise L) (hn : L.length ≤ 1000000) {j : Nat} (hj : j < L.length) : Contract Try.prog 26 [.box i 0, .v (.string (strB L[j].name))] h (.v (.int .i64 (j : Int))) h [] := by
  have hi := hr.i_lt
  refine contract_of k26 mixed (by simp [c26]) fun hh hargs => ?_
  simp [c26]
  refine xloop_ok (D := Nat) (fun q => ⟨[(0, .box i 0), (1, .v (.string (strB L[j].name))), (5, .v (.int .i64 (q : Int)))], [], h, []⟩) (fun q => q ≤ j) (fun q => j - q) 0 (by omega) ?_ ?_
  · simp [Leq, hh, leqH_take, hi]
    done
  · intro q hq
    have hlt : q < L.length := by omega
    obtain ⟨e1, e2, e3, _, _, _, e5⟩ := hr.el hlt
    have hw : IntKind.i64.wrap ((q : Int) + 1) = (q : Int) + 1 := wrap64 (by omega) (by omega)
    by_cases e : L[q].name = L[j].name
    · have := Sn.idx_inj hs hlt hj e
      subst this
      simp [e1, e2, e3, hlt, strB_toList, hh]
      done
    · simp [e1, e2, e3, hlt, strB_toList, e, hw]
      have hqj : q ≠ j := fun e2 => e (by subst e2; rfl)
      refine ⟨q + 1, by omega, by omega, ?_⟩
      simp [Leq, hh, leqH_take, hi]
theorem dplace_no (hr : PdAt h i b L) (hn : L.length ≤ 1000000) {k : List UInt8} (hk : Sn.get k L = none) : Contract Try.prog 26 [.box i 0, .v (.string (strB k))] h (.v (.int .i64 (-1))) h [] := by
  have hi := hr.i_lt
  have hno := Sn.get_none.1 hk
  refine contract_of k26 mixed (by simp [c26]) fun hh hargs => ?_
  simp [c26]
  refine xloop_ok (D := Nat) (fun q => ⟨[(0, .box i 0), (1, .v (.string (strB k))), (5, .v (.int .i64 (q : Int)))], [], h, []⟩) (fun q => q ≤ L.length) (fun q => L.length - q) 0 (by omega) ?_ ?_
  · simp [Leq, hh, leqH_take, hi]
    done
  · intro q hq
    by_cases hlt : q < L.length
    · obtain ⟨e1, e2, e3, _, _, _, e5⟩ := hr.el hlt
      have hw : IntKind.i64.wrap ((q : Int) + 1) = (q : Int) + 1 := wrap64 (by omega) (by omega)
      have e := hno _ (List.getElem_mem hlt)
      simp [e1, e2, e3, hlt, strB_toList, e, hw]
      refine ⟨q + 1, by omega, by omega, ?_⟩
      simp [Leq, hh, leqH_take, hi]
    · have : q = L.length := by omega
      subst this
      have h1 := hr.top
      by_cases hl : L = []
      · subst hl
        simp [lisV] at h1
        simp [h1, hh]
        done
      · rw [lisV_some _ _ hl] at h1
        simp [h1, hh]
        done
theorem dget_no (hr : PdAt h i b L) (hn : L.length ≤ 1000000) {k : List UInt8} (hk : Sn.get k L = none) : Contract Try.prog 20 [.box i 0, .v (.string (strB k))] h (.tup [.agg (ptV zPt), .v (.bool false)]) h [] := by
  have hr' := hr.app [[AV.v (.string (strB [])), .sl 0 [] (some true) .exact, .sl 0 [] (some true) .exact, .sl 0 [] (some true) .exact, .v (.bool false), .v (.bool false)]] (by simp)
  refine contract_of k20 mixed (by simp [c20]) fun hh hargs => ?_
  simp [c20]
  refine xcall_self (by simp) (dplace_no hr' hn hk) ?_
  simp [ptV, ptC, zPt, hh, leqH_take]
theorem dget_at (hr : PdAt h i b L) (hs : Sn.Rise L) (hn : L.length ≤ 1000000) {j : Nat} (hj : j < L.length) : Contract Try.prog 20 [.box i 0, .v (.string (strB L[j].name))] h (.tup [.agg (ptV L[j].val), .v (.bool true)]) h [] := by
  have hr' := hr.app [[AV.v (.string (strB [])), .sl 0 [] (some true) .exact, .sl 0 [] (some true) .exact, .sl 0 [] (some true) .exact, .v (.bool false), .v (.bool false)]] (by simp)
  obtain ⟨e1, e2, e3, _, _, _, e5⟩ := hr'.el hj
  have hcut := slot_cut L j hj
  have hle : j * 7 + 1 + 6 ≤ L.length * 7 := by omega
  have hsum := slE.sum L
  have hun : (ptV L[j].val).map AV.unown = ptV L[j].val := rfl
  have hcut2 : List.take 6 (List.map AV.unown (List.drop (j * 7 + 1) (enc slC L).flatten)) = ptV L[j].val := by rw [← List.map_take, hcut, hun]
  have hjl : (j : Int) < (L.length : Int) := by omega
  refine contract_of k20 mixed (by simp [c20]) fun hh hargs => ?_
  simp [c20]
  refine xcall_self (by simp) (dplace_at hr' hs hn hj) ?_
  simp [e1, e2, e5, hj, hle, hsum, hcut, hcut2, hun, ptV, ptC, hh, leqH_take]
end
end Go.Proofs.Ytmdapcmdlblnnaa.Ax
/- The document's portals over values without memory: Delete, Ran, Fetch. -/
namespace Go.Proofs.Ytmdapcmdlblnnaa.Ax
open Go.RowKit Go By
set_option linter.unusedSimpArgs false
set_option linter.unusedVariables false
set_option maxRecDepth 10000

def DoesD (f : FuncId) (args : List AV) (h : List (List AV)) (i b : Nat) (L : List Sl28) (r : AV) (L' : List Sl28) : Prop :=
  ∃ h' b' wr, Contract Try.prog f args h r h' wr ∧ PdAt h' i b' L' ∧ (∀ q ∈ wr, q < h.length → q = i ∨ (L ≠ [] ∧ q = b)) ∧ (L' ≠ [] → (L ≠ [] ∧ b' = b) ∨ h.length ≤ b') ∧ h.length ≤ h'.length ∧ (∀ q < h.length, q ≠ i → (L ≠ [] → q ≠ b) → h'[q]? = h[q]?) ∧ (plainH h → plainH h')
section
variable {h : List (List AV)} {i b : Nat} {L : List Sl28}
/-- What is built behind a heap takes the list's place. -/
theorem PdAt.own (hr : PdAt h i b L) {H : List (List AV)} {b' : Nat} {L' : List Sl28} (hF : OwnL slC 7 h H b' L') : PdAt (H.set i [lisV 7 b' L']) i b' L' ∧ (L' ≠ [] → h.length ≤ b') ∧ h.length ≤ (H.set i [lisV 7 b' L']).length ∧ (∀ q < h.length, q ≠ i → (H.set i [lisV 7 b' L'])[q]? = h[q]?) ∧ (plainH h → plainH (H.set i [lisV 7 b' L'])) := by
  have hi := hr.i_lt
  have hl := hF.len
  have hne : L' ≠ [] → i ≠ b' := fun e => by have := (hF.own e).1; omega
  refine ⟨⟨List.getElem?_set_self (by omega), fun e => ?_, hne, ?_⟩, fun e => (hF.own e).1, by simp; omega, fun q hq n1 => ?_, fun hp => plainH_set (hF.plain hp) (fun c hc => ?_) _⟩
  · rw [List.getElem?_set_ne (hne e)]; exact (hF.own e).2
  · rw [List.length_set]
    exact ltLL_set hF.lt ⟨lisV_lt fun e => (List.getElem?_eq_some_iff.1 (hF.own e).2).1, trivial⟩
  · rw [List.getElem?_set_ne (Ne.symm n1)]; exact hF.ext q hq
  · rw [List.mem_singleton.1 hc]; exact lisV_id _ _ _
theorem ddel_no (hr : PdAt h i b L) (hn : L.length ≤ 1000000) {k : List UInt8} (hk : Sn.get k L = none) : Contract Try.prog 17 [.box i 0, .v (.string (strB k))] h (.v (.bool false)) h [] := by
  refine contract_of k17 mixed (by simp [c17]) fun hh hargs => ?_
  simp [c17]
  refine xcall_self (by simp) (dplace_no hr hn hk) ?_
  simp [hh]
theorem ddel_at (hr : PdAt h i b L) (hs : Sn.Rise L) (hn : L.length ≤ 1000000) {j : Nat} (hj : j < L.length) : DoesD 17 [.box i 0, .v (.string (strB L[j].name))] h i b L (.v (.bool true)) (Sn.del L[j].name L) := by
  have hi := hr.i_lt
  have hLne : L ≠ [] := fun e => by rw [e] at hj; cases hj
  have hb0 := hr.list hLne
  rw [Sn.del_idx hs hj]
  have F0 : OwnL slC 7 h h b ([] : List Sl28) := OwnL.nil hr.lt b
  have F1 := F0.ap slE (L.take j)
  have F2 := F1.ap slE (L.drop (j + 1))
  simp only [List.nil_append] at F1 F2
  obtain ⟨g1, g2, g3, g4, g5⟩ := hr.own F2
  have q2 := F2.ext i hi
  obtain ⟨H1, hH1⟩ : ∃ H, H = apH slC h b [] (L.take j) := ⟨_, rfl⟩
  obtain ⟨b1, hb1⟩ : ∃ b1, b1 = apB h b (L.take j) := ⟨_, rfl⟩
  obtain ⟨H2, hH2⟩ : ∃ H, H = apH slC H1 b1 (L.take j) (L.drop (j + 1)) := ⟨_, rfl⟩
  obtain ⟨b2, hb2⟩ : ∃ b2, b2 = apB H1 b1 (L.drop (j + 1)) := ⟨_, rfl⟩
  obtain ⟨W2, hW2⟩ : ∃ W, W = apW b1 (L.take j) (L.drop (j + 1)) [] := ⟨_, rfl⟩
  simp only [← hH1, ← hb1, ← hH2, ← hb2] at F1 F2 g1 g2 g3 g4 g5 q2
  have w2 : ∀ q ∈ W2, h.length ≤ q := fun q hq => by
    rw [hW2] at hq
    rcases apW_mem hq with h1 | ⟨h1, h2⟩
    · cases h1
    · rw [h2]; exact (F1.own h1).1
  have i2 : i ∉ W2 := fun h1 => by have := w2 i h1; omega
  have i2t : ∀ n, i ∉ W2.take n := fun n h1 => i2 (List.mem_of_mem_take h1)
  refine ⟨_, _, [i], ?_, g1, fun q hq _ => .inl (List.mem_singleton.1 hq), fun e => .inr (g2 e), g3, fun q hq n1 _ => g4 q hq n1, g5⟩
  obtain ⟨e1, e2, e3, _, _, _, e5⟩ := hr.el hj
  have hw : IntKind.i64.wrap ((j : Int) + 1) = (j : Int) + 1 := wrap64 (by omega) (by omega)
  have hx1 : IsRows slC h 7 (.bsl b 0 7 j) (L.take j) := isRows_bsl slE hb0 (lo := 0) (hi := j) (Nat.zero_le _) (by omega) (by omega) (by omega)
  have hx2 : IsRows slC H1 7 (.bsl b ((j + 1) * 7) 7 (L.length - (j + 1))) (L.drop (j + 1)) := by
    have h2b := (F1.ext b (List.getElem?_eq_some_iff.1 hb0).1).trans hb0
    have := isRows_bsl slE h2b (lo := j + 1) (hi := L.length) (by omega) (Nat.le_refl _) (off := (j + 1) * 7) (n := L.length - (j + 1)) rfl rfl
    rwa [List.take_length] at this
  have hsub2 : ((L.length : Int) - ((j : Int) + 1)).toNat = L.length - (j + 1) := by omega
  have hji : (j : Int) < (L.length : Int) := by omega
  have hjn : ¬ (j : Int) < 0 := by omega
  refine contract_of k17 mixed (by simp [c17]) fun hh hargs => ?_
  simp [c17]
  refine xcall_self (by simp) (dplace_at hr hs hn hj) ?_
  simp [e1, e2, e3, hj, hjn, hw, hsub2]
  refine ⟨by omega, by omega, .inl (ap_run slE (L := ([] : List Sl28)) (b := b) (fun h => absurd rfl h) hx1 (by simp; omega) (by simp; omega) ?_)⟩
  simp [← hH1, ← hb1]
  refine ap_run slE (fun hne => (F1.own hne).2) hx2 (by simp; omega) (by simp; omega) ?_
  simp [← hH2, ← hb2, ← hW2, i2, i2t, q2, e1]
  exact ⟨F2.len, by have := g1.lt; simpa using this, fun a h1 h2 => by have := w2 a h1; omega⟩
theorem ddel_d (hr : PdAt h i b L) (hs : Sn.Rise L) (hn : L.length ≤ 1000000) (k : List UInt8) : DoesD 17 [.box i 0, .v (.string (strB k))] h i b L (.v (.bool (Sn.get k L).isSome)) (Sn.del k L) := by
  cases hk : Sn.get k L with
  | none =>
    have e : Sn.del k L = L := List.eraseP_of_forall_not fun x hx => by have := Sn.get_none.1 hk x hx; simpa using this
    rw [e]
    exact ⟨h, b, [], ddel_no hr hn hk, hr, (fun q hq => by cases hq), (fun e => .inl ⟨e, rfl⟩), Nat.le_refl _, (fun _ _ _ _ => rfl), fun h => h⟩
  | some u =>
    obtain ⟨x, hx, h1, h2⟩ := (Sn.get_iff hs).1 hk
    obtain ⟨j, hj, rfl⟩ := List.getElem_of_mem hx
    subst h1 h2
    exact ddel_at hr hs hn hj
/-! ### Ran, Fetch -/
theorem dran_no (hr : PdAt h i b L) (hn : L.length ≤ 1000000) {k : List UInt8} (hk : Sn.get k L = none) (R : List (List Cl)) : Contract Try.prog 12 [.box i 0, .v (.string (strB k)), .sl 1 (enc rowKC R) none .no] h (.v (.bool false)) h [] := by
  refine contract_of k12 mixed (by simp [c12]) fun hh hargs => ?_
  simp [c12]
  refine xcall_self (by simp) (dplace_no hr hn hk) ?_
  simp [hh]
theorem dran_t (hr : PdAt h i b L) (hs : Sn.Rise L) (hn : L.length ≤ 1000000) {j : Nat} (hj : j < L.length) (hran : L[j].val.ran = true) (R : List (List Cl)) : Contract Try.prog 12 [.box i 0, .v (.string (strB L[j].name)), .sl 1 (enc rowKC R) none .no] h (.v (.bool false)) h [] := by
  obtain ⟨e1, e2, e3, _, e4, _, e5⟩ := hr.el hj
  rw [hran] at e4
  have hjn : ¬ (j : Int) < 0 := by omega
  refine contract_of k12 mixed (by simp [c12]) fun hh hargs => ?_
  simp [c12]
  refine xcall_self (by simp) (dplace_at hr hs hn hj) ?_
  simp [e1, e2, hj, hjn, e4, hh]
theorem set_ne_nil {j : Nat} (hj : j < L.length) (s : Sl28) : L.set j s ≠ [] := fun e => by
  have := congrArg List.length e
  simp at this
  subst this
  cases hj
theorem dran_f (hr : PdAt h i b L) (hs : Sn.Rise L) (hn : L.length ≤ 1000000) {j : Nat} (hj : j < L.length) (hran : L[j].val.ran = false) (R : List (List Cl)) : DoesD 12 [.box i 0, .v (.string (strB L[j].name)), .sl 1 (enc rowKC R) none .no] h i b L (.v (.bool true)) (Sn.put L[j].name (ranP L[j].val R) L) := by
  have hLne : L ≠ [] := fun e => by rw [e] at hj; cases hj
  have hap := hr.apart hLne
  obtain ⟨e1, e2, e3, _, e4, _, e5⟩ := hr.el hj
  rw [hran] at e4
  have hb := (List.getElem?_eq_some_iff.1 e2).1
  have hjn : ¬ (j : Int) < 0 := by omega
  rw [Sn.put_at hs hj]
  have s1 := slE.set hj (q := 5) (by omega) (.v (.bool true)) (⟨L[j].name, { L[j].val with ran := true }⟩ : Sl28) rfl
  have hj' : j < (L.set j (⟨L[j].name, { L[j].val with ran := true }⟩ : Sl28)).length := by simpa using hj
  have hget : (L.set j (⟨L[j].name, { L[j].val with ran := true }⟩ : Sl28))[j]'hj' = ⟨L[j].name, { L[j].val with ran := true }⟩ := by simp
  have s2 := slE.set hj' (q := 4) (by omega) (.sl 1 (enc rowKC R) none .no) (⟨L[j].name, ranP L[j].val R⟩ : Sl28) (by rw [hget]; rfl)
  rw [List.set_set] at s2
  have hl5 : j * 7 + 5 < L.length * 7 := by omega
  have hsum := slE.sum L
  have hsum2 := slE.sum (L.set j (⟨L[j].name, { L[j].val with ran := true }⟩ : Sl28))
  rw [List.length_set] at hsum2
  have hle5 : j * 7 + 5 + 1 ≤ L.length * 7 := by omega
  have hle4 : j * 7 + 4 + 1 ≤ L.length * 7 := by omega
  have b4 : ∀ X, (h.set b X)[b]? = some X := fun X => List.getElem?_set_self hb
  have b5 : ∀ X, (h.set b X)[i]? = some [.bsl b 0 7 L.length] := fun X => by rw [List.getElem?_set_ne (Ne.symm hap)]; exact e1
  have hlt2 : ltLL h.length (h.set b (enc slC (L.set j ⟨L[j].name, ranP L[j].val R⟩)).flatten) := ltLL_set hr.lt (slE.flat_lt _ _)
  refine ⟨h.set b (enc slC (L.set j ⟨L[j].name, ranP L[j].val R⟩)).flatten, b, [b], ?_, ⟨?_, fun _ => List.getElem?_set_self hb, fun _ => hap, by rw [List.length_set]; exact hlt2⟩, (fun q hq _ => .inr ⟨hLne, List.mem_singleton.1 hq⟩), (fun _ => .inl ⟨hLne, rfl⟩), by simp, (fun q _ _ hq => List.getElem?_set_ne (Ne.symm (hq hLne))), fun hp => plainH_set hp (slE.flat_plain _) _⟩
  · refine contract_of k12 mixed (by simp [c12]) fun hh hargs => ?_
    simp [c12]
    refine xcall_self (by simp) (dplace_at hr hs hn hj) ?_
    simp [e1, e2, hj, hjn, e4, hsum, hle5, s1, b4, b5, hsum2, hle4, s2, hh, hlt2, hap]
  · rw [List.getElem?_set_ne (Ne.symm hap), e1, lisV_some _ _ (set_ne_nil hj _), List.length_set]
theorem dfetch_no (hr : PdAt h i b L) (hn : L.length ≤ 1000000) {k : List UInt8} (hk : Sn.get k L = none) (most : Int) : Contract Try.prog 14 [.box i 0, .v (.string (strB k)), .v (.int .i64 most)] h (.tup [.sl 1 (enc rowKC []) none .no, .v (.bool false)]) h [] := by
  refine contract_of k14 mixed (by simp [c14]) fun hh hargs => ?_
  simp [c14]
  refine xcall_self (by simp) (dplace_no hr hn hk) ?_
  simp [hh]
theorem dfetch_t (hr : PdAt h i b L) (hs : Sn.Rise L) (hn : L.length ≤ 1000000) {j : Nat} (hj : j < L.length) (hno : L[j].val.ran = false ∨ L[j].val.over = true) (most : Int) : Contract Try.prog 14 [.box i 0, .v (.string (strB L[j].name)), .v (.int .i64 most)] h (.tup [.sl 1 (enc rowKC []) none .no, .v (.bool false)]) h [] := by
  obtain ⟨e1, e2, e3, _, e4, e6, e5⟩ := hr.el hj
  have hjn : ¬ (j : Int) < 0 := by omega
  refine contract_of k14 mixed (by simp [c14]) fun hh hargs => ?_
  simp [c14]
  refine xcall_self (by simp) (dplace_at hr hs hn hj) ?_
  cases hran : L[j].val.ran with
  | false =>
    rw [hran] at e4
    simp [e1, e2, hj, hjn, e4, hh]
  | true =>
    have hov : L[j].val.over = true := by simpa [hran] using hno
    rw [hran] at e4
    rw [hov] at e6
    simp [e1, e2, hj, hjn, e4, e6, hh]
set_option maxHeartbeats 1000000 in
theorem dfetch_f (hr : PdAt h i b L) (hs : Sn.Rise L) (hn : L.length ≤ 1000000) {j : Nat} (hj : j < L.length) {nm : List UInt8} {v : Pt} (hLj : L[j] = ⟨nm, v⟩) (hran : v.ran = true) (hov : v.over = false) (hrl : v.rows.length ≤ 1000000) (most : Int) :
    DoesD 14 [.box i 0, .v (.string (strB nm)), .v (.int .i64 most)] h i b L (.tup [.sl 1 (enc rowKC (v.rows.take (fetchN most v.rows.length))) none .no, .v (.bool (!decide (v.rows.drop (fetchN most v.rows.length) = [])))]) (Sn.put nm (fetchP v (fetchN most v.rows.length)) L) := by
  have hnm : nm = L[j].name := by rw [hLj]
  have hput := Sn.put_at hs hj (fetchP v (fetchN most v.rows.length))
  rw [← hnm] at hput
  rw [hput]
  have hLne : L ≠ [] := fun e => by rw [e] at hj; cases hj
  have hap := hr.apart hLne
  obtain ⟨e1, e2, e3, e7, e4, e6, e5⟩ := hr.el hj
  rw [hLj] at e7 e4 e6
  have hb := (List.getElem?_eq_some_iff.1 e2).1
  have hjn : ¬ (j : Int) < 0 := by omega
  have hmin := fetch_min most v.rows.length
  have hle := fetchN_le most v.rows.length
  obtain ⟨n, hnn⟩ : ∃ n, n = fetchN most v.rows.length := ⟨_, rfl⟩
  rw [← hnn] at hmin hle ⊢
  have s1 := slE.set hj (q := 4) (by omega) (.sl 1 (enc rowKC (v.rows.drop n)) none .no) (⟨nm, { v with rows := v.rows.drop n }⟩ : Sl28) (by rw [hLj]; rfl)
  have hj' : j < (L.set j (⟨nm, { v with rows := v.rows.drop n }⟩ : Sl28)).length := by simpa using hj
  have hget : (L.set j (⟨nm, { v with rows := v.rows.drop n }⟩ : Sl28))[j]'hj' = ⟨nm, { v with rows := v.rows.drop n }⟩ := by simp
  have s2 := slE.set hj' (q := 6) (by omega) (.v (.bool true)) (⟨nm, { v with rows := v.rows.drop n, over := true }⟩ : Sl28) (by rw [hget]; rfl)
  rw [List.set_set] at s2
  have t1 := slE.at_ hj' (q := 4) (by omega)
  rw [hget] at t1
  have t1 : (enc slC (L.set j ⟨nm, { v with rows := v.rows.drop n }⟩)).flatten[j * 7 + 4]? = some (.sl 1 (enc rowKC (v.rows.drop n)) none .no) := t1
  have hj2 : j < (L.set j (⟨nm, { v with rows := v.rows.drop n, over := true }⟩ : Sl28)).length := by simpa using hj
  have hget2 : (L.set j (⟨nm, { v with rows := v.rows.drop n, over := true }⟩ : Sl28))[j]'hj2 = ⟨nm, { v with rows := v.rows.drop n, over := true }⟩ := by simp
  have t2 := slE.at_ hj2 (q := 4) (by omega)
  rw [hget2] at t2
  have t2 : (enc slC (L.set j ⟨nm, { v with rows := v.rows.drop n, over := true }⟩)).flatten[j * 7 + 4]? = some (.sl 1 (enc rowKC (v.rows.drop n)) none .no) := t2
  have hsum := slE.sum L
  have hsum1 := slE.sum (L.set j (⟨nm, { v with rows := v.rows.drop n }⟩ : Sl28))
  rw [List.length_set] at hsum1
  have hle4 : j * 7 + 4 + 1 ≤ L.length * 7 := by omega
  have hle6 : j * 7 + 6 + 1 ≤ L.length * 7 := by omega
  have b4 : ∀ X, (h.set b X)[b]? = some X := fun X => List.getElem?_set_self hb
  have b5 : ∀ X, (h.set b X)[i]? = some [.bsl b 0 7 L.length] := fun X => by rw [List.getElem?_set_ne (Ne.symm hap)]; exact e1
  have hnl : (n : Int) ≤ (v.rows.length : Int) := by omega
  have hm1 : min n v.rows.length = n := by omega
  have hlt2 : ltLL h.length (h.set b (enc slC (L.set j ⟨nm, fetchP v n⟩)).flatten) := ltLL_set hr.lt (slE.flat_lt _ _)
  have hplace := dplace_at hr hs hn hj
  rw [← hnm] at hplace
  refine ⟨h.set b (enc slC (L.set j ⟨nm, fetchP v n⟩)).flatten, b, [b], ?_, ⟨?_, fun _ => List.getElem?_set_self hb, fun _ => hap, by rw [List.length_set]; exact hlt2⟩, (fun q hq _ => .inr ⟨hLne, List.mem_singleton.1 hq⟩), (fun _ => .inl ⟨hLne, rfl⟩), by simp, (fun q _ _ hq => List.getElem?_set_ne (Ne.symm (hq hLne))), fun hp => plainH_set hp (slE.flat_plain _) _⟩
  · rw [hran] at e4
    rw [hov] at e6
    have f4 : ∀ c, ((enc slC L).flatten.set (j * 7 + 1 + 3) c)[j * 7 + 1 + 3]? = some c := fun c => List.getElem?_set_self (by rw [e5]; omega)
    have f5 : ∀ c d, (((enc slC L).flatten.set (j * 7 + 1 + 3) c).set (j * 7 + 1 + 5) d)[j * 7 + 1 + 3]? = some c := fun c d => by rw [List.getElem?_set_ne (by omega), f4]
    have hle4' : j * 7 + 1 + 3 + 1 ≤ L.length * 7 := by omega
    have hle6' : j * 7 + 1 + 5 + 1 ≤ L.length * 7 := by omega
    by_cases hd : v.rows.drop n = []
    · have hfp : fetchP v n = { v with rows := v.rows.drop n, over := true } := by unfold fetchP; rw [decide_eq_true hd]
      rw [hfp] at hlt2 ⊢
      have hd0 : v.rows.length - n = 0 := by have := congrArg List.length hd; simpa using this
      have hnv : n = v.rows.length := by omega
      have s12 : (((enc slC L).flatten.set (j * 7 + 1 + 3) (.sl 1 [] none .no)).set (j * 7 + 1 + 5) (.v (.bool true))) = (enc slC (L.set j ⟨nm, { v with rows := v.rows.drop n, over := true }⟩)).flatten := by
        have c0 : AV.sl 1 [] none .no = .sl 1 (enc rowKC (v.rows.drop n)) none .no := by rw [hd]; rfl
        rw [c0]
        show ((enc slC L).flatten.set (j * 7 + 4) _).set (j * 7 + 6) _ = _
        rw [s1, s2]
      have htk : v.rows.take n = v.rows := by rw [hnv, List.take_length]
      rw [← s12] at hlt2 ⊢
      rw [htk, decide_eq_true hd]
      rw [hnv] at hmin
      refine contract_of k14 mixed (by simp [c14]) fun hh hargs => ?_
      simp [c14]
      refine xcall_self (by simp) hplace ?_
      by_cases hm : most < 1
      · have hm1' : ¬ (1 : Int) ≤ most := by omega
        simp [e1, e2, hj, hjn, e4, e6, e7, hm1', hm, b4, b5, hap, hsum, hle4', hle6', f4, f5, hh, hlt2]
        refine xappendA_own ?_
        simp [hh, hlt2, hap]
        omega
      · have hm1' : (1 : Int) ≤ most := by omega
        rw [if_neg hm] at hmin
        simp [e1, e2, hj, hjn, e4, e6, e7, hm1', hm, b4, b5, hap, hsum, hle4', hle6', f4, f5, hh, hlt2, hmin]
        refine xappendA_own ?_
        simp [hh, hlt2, hap]
        omega
    · have hfp : fetchP v n = { v with rows := v.rows.drop n } := by unfold fetchP; rw [decide_eq_false hd, ← hov]
      rw [hfp] at hlt2 ⊢
      have hd0 : n < v.rows.length := by
        rcases Nat.lt_or_ge n v.rows.length with h1 | h1
        · exact h1
        · exact absurd (List.drop_eq_nil_of_le h1) hd
      have s11 : ((enc slC L).flatten.set (j * 7 + 1 + 3) (.sl 1 (enc rowKC (v.rows.drop n)) none .no)) = (enc slC (L.set j ⟨nm, { v with rows := v.rows.drop n }⟩)).flatten := s1
      rw [← s11] at hlt2 ⊢
      have hm : ¬ most < 1 := fun hm => by
        have : fetchN most v.rows.length = v.rows.length := if_pos hm
        omega
      have hm1' : (1 : Int) ≤ most := by omega
      rw [if_neg hm] at hmin
      have hz : ((v.rows.length - n : Nat) : Int) ≠ 0 := by omega
      have hz1 : v.rows.length - n ≠ 0 := by omega
      have hz2 : ¬ v.rows.length ≤ n := by omega
      rw [decide_eq_false hd]
      refine contract_of k14 mixed (by simp [c14]) fun hh hargs => ?_
      simp [c14]
      refine xcall_self (by simp) hplace ?_
      simp [e1, e2, hj, hjn, e4, e6, e7, hm1', hm, b4, b5, hap, hsum, hle4', hle6', f4, f5, hh, hlt2, hmin, hle, hnl, hz, hz1, hz2]
      refine xappendA_own ?_
      simp [hh, hlt2, hap, hz1, hz2]
      omega
  · rw [List.getElem?_set_ne (Ne.symm hap), e1, lisV_some _ _ (set_ne_nil hj _), List.length_set]
end
end Go.Proofs.Ytmdapcmdlblnnaa.Ax
namespace Go.Proofs.Ytmdapcmdlblnnaa.Ax
open Go.RowKit Go By
set_option linter.unusedSimpArgs false
set_option linter.unusedVariables false
set_option maxRecDepth 10000

section
variable {h : List (List AV)} {i b : Nat} {L : List Sl28}
theorem dput_twice (hr : PdAt h i b L) (hs : Sn.Rise L) (hn : L.length ≤ 1000000) {j : Nat} (hj : j < L.length) (hk : L[j].name ≠ []) (p : Pt) : Contract Try.prog 10 [.box i 0, .v (.string (strB L[j].name)), .agg (ptV p)] h (.v (.int .i64 8)) h [] := by
  have hr' := hr.app [ptV p] (by simp [ptV, ptC])
  have hk' : (L[j].name == []) = false := by simpa using hk
  have hun : (ptV p).map AV.unown = ptV p := rfl
  have hjn : ¬ (j : Int) < 0 := by omega
  refine contract_of k10 mixed (by simp [c10]) fun hh hargs => ?_
  simp [c10, hun, hk, hk']
  refine xcall_self (by simp) (dplace_at hr' hs hn hj) ?_
  simp [hh, leqH_take]
theorem apW_new {α : Type} {b m : Nat} {A X : List α} {w w1 : List Nat} (hb : A ≠ [] → m ≤ b) (hw : ∃ n, w = n ++ w1 ∧ ∀ q ∈ n, m ≤ q) : ∃ n, apW b A X w = n ++ w1 ∧ ∀ q ∈ n, m ≤ q := by
  obtain ⟨n, e, hn⟩ := hw
  unfold apW
  split
  · exact ⟨n, e, hn⟩
  · split
    · exact ⟨n, e, hn⟩
    · rename_i hA
      exact ⟨b :: n, by rw [e]; rfl, fun q hq => by
        rcases List.mem_cons.1 hq with rfl | hq
        · exact hb hA
        · exact hn q hq⟩
set_option maxHeartbeats 4000000 in
theorem dput_d (hr : PdAt h i b L) (hs : Sn.Rise L) (hn : L.length ≤ 1000) {k : List UInt8} (hc : k = [] ∨ Sn.get k L = none) (p : Pt) : DoesD 10 [.box i 0, .v (.string (strB k)), .agg (ptV p)] h i b L (.v (.int .i64 0)) (Sn.put k p (Sn.del k L)) := by
  have hi := hr.i_lt
  have hr' := hr.app [ptV p] (by simp [ptV, ptC])
  obtain ⟨h1, b1, w1, kd, r1, hw1, hb1, hl1, hs1, hp1⟩ := ddel_d hr' hs (by omega) k
  have hl1' : h.length + 1 ≤ h1.length := by simpa using hl1
  have rs1 := Sn.rise_del hs k
  have gn1 : Sn.get k (Sn.del k L) = none := by rw [Sn.get_del hs]; simp
  have hn1 : (Sn.del k L).length ≤ 1000 := Nat.le_trans (List.eraseP_sublist ..).length_le hn
  rw [Sn.put_new gn1]
  have hself : h1[h.length]? = some (ptV p) := by
    rw [hs1 h.length (by simp) (by omega) fun hne => by have := hr.b_lt hne; omega]; simp
  obtain ⟨L1, hL1⟩ : ∃ L1, L1 = Sn.del k L := ⟨_, rfl⟩
  rw [← hL1] at r1 hb1 rs1 gn1 hn1 ⊢
  have hi1 := r1.i_lt
  have hp := Sn.at_le k L1
  obtain ⟨q0, hq0⟩ : ∃ q, q = Sn.at_ k L1 := ⟨_, rfl⟩
  have hins : Sn.ins k p L1 = L1.take q0 ++ [⟨k, p⟩] ++ L1.drop q0 := by rw [hq0]; rfl
  have plow : ∀ q (hq : q < L1.length), q < q0 → L1[q].name < k := fun q hq h => Sn.at_lt hq (by rw [← hq0]; exact h)
  have phigh : ∀ (hq : q0 < L1.length), ¬ L1[q0].name < k := fun hq => by subst hq0; exact Sn.at_ge hq
  rw [← hq0] at hp
  rw [hins]
  have F0 : OwnL slC 7 h1 h1 b1 ([] : List Sl28) := OwnL.nil r1.lt b1
  have F1 := F0.ap slE (L1.take q0)
  have F2 := F1.ap slE [⟨k, p⟩]
  have F3 := F2.ap slE (L1.drop q0)
  simp only [List.nil_append] at F1 F2 F3
  obtain ⟨g1, g2, g3, g4, g5⟩ := r1.own F3
  have q3 := F3.ext i hi1
  obtain ⟨W2, hW2⟩ : ∃ W, W = apW (apB h1 b1 (L1.take q0)) (L1.take q0) [(⟨k, p⟩ : Sl28)] w1 := ⟨_, rfl⟩
  obtain ⟨H1, hH1⟩ : ∃ H, H = apH slC h1 b1 [] (L1.take q0) := ⟨_, rfl⟩
  obtain ⟨c1, hc1⟩ : ∃ c1, c1 = apB h1 b1 (L1.take q0) := ⟨_, rfl⟩
  obtain ⟨H2, hH2⟩ : ∃ H, H = apH slC H1 c1 (L1.take q0) [(⟨k, p⟩ : Sl28)] := ⟨_, rfl⟩
  obtain ⟨c2, hc2⟩ : ∃ c2, c2 = apB H1 c1 [(⟨k, p⟩ : Sl28)] := ⟨_, rfl⟩
  obtain ⟨H3, hH3⟩ : ∃ H, H = apH slC H2 c2 (L1.take q0 ++ [(⟨k, p⟩ : Sl28)]) (L1.drop q0) := ⟨_, rfl⟩
  obtain ⟨c3, hc3⟩ : ∃ c3, c3 = apB H2 c2 (L1.drop q0) := ⟨_, rfl⟩
  obtain ⟨W3, hW3⟩ : ∃ W, W = apW c2 (L1.take q0 ++ [(⟨k, p⟩ : Sl28)]) (L1.drop q0) W2 := ⟨_, rfl⟩
  simp only [← hH1, ← hc1, ← hH2, ← hc2, ← hH3, ← hc3] at F1 F2 F3 g1 g2 g3 g4 g5 q3 hW2
  have wok : ∀ q ∈ w1, q < h.length → q = i ∨ (L ≠ [] ∧ q = b) := fun q hq hlt => hw1 q hq (by simp; omega)
  have w2 : ∀ q ∈ W2, q < h.length → q = i ∨ (L ≠ [] ∧ q = b) := fun q hq hlt => by
    rw [hW2] at hq
    rcases apW_mem hq with h1' | ⟨h1', h2'⟩
    · exact wok q h1' hlt
    · have := (F1.own h1').1; omega
  have w3 : ∀ q ∈ W3, q < h.length → q = i ∨ (L ≠ [] ∧ q = b) := fun q hq hlt => by
    rw [hW3] at hq
    rcases apW_mem hq with h1' | ⟨h1', h2'⟩
    · exact w2 q h1' hlt
    · have := (F2.own h1').1; omega
  refine ⟨H3.set i [lisV 7 c3 (L1.take q0 ++ [⟨k, p⟩] ++ L1.drop q0)], c3, i :: W3, ?_, g1, fun q hq hlt => ?_, fun e => .inr (by have := g2 e; omega), by omega, fun q hq n1 n2 => ?_, fun hpl => g5 (hp1 (plainH_append hpl fun z hz => by rw [List.mem_singleton.1 hz]; exact ptC_id rfl))⟩
  · have hun : (ptV p).map AV.unown = ptV p := rfl
    have hlen6 : (ptV p).length = 6 := rfl
    have htk : List.take 6 (ptV p) = ptV p := rfl
    refine contract_cut (XCode.cuts [false, false, false, false, true] c10.code) k10 rfl mixed (by simp [c10]) fun hh hargs => ?_
    have h1t := r1.lt
    have hx3 : L1 ≠ [] → IsRows slC H2 7 (.bsl b1 (q0 * 7) 7 (L1.length - q0)) (L1.drop q0) := fun hl => by
      have h2b := (F2.ext b1 (r1.b_lt hl)).trans (r1.list hl)
      have := isRows_bsl slE h2b (lo := q0) (hi := L1.length) (by omega) (Nat.le_refl _) (off := q0 * 7) (n := L1.length - q0) rfl rfl
      rwa [List.take_length] at this
    have hlay : lay [AV.v (.string (strB k)), .v (.string (strB [])), .sl 0 [] (some true) .exact, .sl 0 [] (some true) .exact, .sl 0 [] (some true) .exact, .v (.bool false), .v (.bool false)] 1 (ptV p) = slC (⟨k, p⟩ : Sl28) := rfl
    have hs7 : (slC (⟨k, p⟩ : Sl28)).length = 7 := rfl
    have hunS : (slC (⟨k, p⟩ : Sl28)).map AV.unown = slC (⟨k, p⟩ : Sl28) := rfl
    have hlay0 : lay [AV.v (.string (strB [])), .v (.string (strB [])), .sl 0 [] (some true) .exact, .sl 0 [] (some true) .exact, .sl 0 [] (some true) .exact, .v (.bool false), .v (.bool false)] 0 (slC (⟨k, p⟩ : Sl28)) = slC (⟨k, p⟩ : Sl28) := rfl
    have hun2 : (ptV p).map (AV.unown ∘ AV.unown) = ptV p := rfl
    obtain ⟨n2, en2, t2⟩ : ∃ n, W2 = n ++ w1 ∧ ∀ q ∈ n, h1.length ≤ q := by
      rw [hW2]
      exact apW_new (fun hne => (F1.own hne).1) ⟨[], rfl, fun q hq => by cases hq⟩
    obtain ⟨n3, en3, t3⟩ : ∃ n, W3 = n ++ W2 ∧ ∀ q ∈ n, h1.length ≤ q := by
      rw [hW3]
      exact apW_new (fun hne => (F2.own hne).1) ⟨[], rfl, fun q hq => by cases hq⟩
    have k2 : W2.take (W2.length - w1.length) = n2 := by rw [en2]; simp
    have k3 : W3.take (W3.length - W2.length) = n3 := by rw [en3]; simp
    have i2 : i ∉ n2 := fun h => by have := t2 i h; omega
    have i3 : i ∉ n3 := fun h => by have := t3 i h; omega
    have j2 : h.length ∉ n2 := fun h => by have := t2 _ h; omega
    have j3 : h.length ∉ n3 := fun h => by have := t3 _ h; omega
    have hself1 : H1[h.length]? = some (ptV p) := (F1.ext h.length (by omega)).trans hself
    have hself2 : H2[h.length]? = some (ptV p) := (F2.ext h.length (by omega)).trans hself
    by_cases hk0 : k = []
    case' pos =>
      have hk1 : (k == []) = true := by simpa using hk0
      simp [c10, hun, hk1, -beq_iff_eq, -List.isEmpty_iff]
      refine xcall_self (by simp) kd ?_
      simp
    case' neg =>
      have hg := hc.resolve_left hk0
      have hk1 : (k == []) = false := by simpa using hk0
      simp [c10, hun, hk1, hk0]
      refine xcall_self (by simp) (dplace_no hr' (by omega) hg) ?_
      simp [hun, hk1, hk0]
      refine xcall_self (by simp) kd ?_
      simp
    all_goals
      refine xseq_cut ⟨[(0, .box i 0), (1, .v (.string (strB k))), (5, .box h.length 0), (7, .v (.int .i64 (q0 : Int)))], [], h1, w1⟩ ?_ ?_
      · refine xloop_ok (D := Nat) (fun q => ⟨[(0, .box i 0), (1, .v (.string (strB k))), (5, .box h.length 0), (7, .v (.int .i64 (q : Int)))], [], h1, w1⟩) (fun q => q ≤ q0) (fun q => q0 - q) 0 (by omega) ?_ ?_
        · simp [Leq, hl1', h1t, hi1, leqH_take]
          exact ⟨by omega, by omega, fun _ h _ => h⟩
        · intro q hq
          by_cases hqp : q < q0
          · have hlt : q < L1.length := by omega
            obtain ⟨e1, e2, e3, _, _, _, e5⟩ := r1.el hlt
            have hw : IntKind.i64.wrap ((q : Int) + 1) = (q : Int) + 1 := wrap64 (by omega) (by omega)
            have e := plow q hlt hqp
            simp [e1, e2, e3, hlt, strB_toList, bLess_eq, e, hw]
            refine ⟨q + 1, by omega, by omega, ?_⟩
            simp [Leq, hl1', h1t, hi1, leqH_take]
            exact ⟨by omega, by omega, fun _ h _ => h⟩
          · have : q = q0 := by omega
            subst this
            have h1top := r1.top
            by_cases hl : L1 = []
            · subst hl
              simp [lisV] at h1top
              have hq0n : ¬ (q : Int) < 0 := by omega
              simp [h1top, hq0n]
              simp [Leq, hl1', h1t, hi1, leqH_take]
              exact ⟨by omega, by omega, fun _ h _ => h⟩
            · rw [lisV_some _ _ hl] at h1top
              by_cases hlt : q < L1.length
              · obtain ⟨e1, e2, e3, _, _, _, e5⟩ := r1.el hlt
                have e := phigh hlt
                simp [e1, e2, e3, hlt, strB_toList, bLess_eq, e]
                simp [Leq, hl1', h1t, hi1, leqH_take]
                exact ⟨by omega, by omega, fun _ h _ => h⟩
              · have hqn : ¬ (q : Int) < (L1.length : Int) := by omega
                simp [h1top, hqn]
                simp [Leq, hl1', h1t, hi1, leqH_take]
                exact ⟨by omega, by omega, fun _ h _ => h⟩
      · have h1top := r1.top
        by_cases hl : L1 = []
        · subst hl
          simp [lisV] at h1top
          have hp0 : q0 = 0 := by simpa using hp
          subst hp0
          have hx1 : ∀ nul room, IsRows slC h1 7 (.sl 7 [] nul room) (([] : List Sl28).take 0) := fun nul room => isRows_sl rfl
          have hx3 : ∀ nul room, IsRows slC H2 7 (.sl 7 [] nul room) (([] : List Sl28).drop 0) := fun nul room => isRows_sl rfl
          simp only [List.take_nil, List.drop_nil, List.nil_append, List.append_nil] at hH1 hc1 hH2 hc2 hH3 hc3 hW2 hW3 hx1 hx3 F1 F2 F3 g1 q3
          simp [h1top, hself, hlen6, hun2, htk, hun, hlay]
          refine ⟨?_, ?_⟩
          · refine .inl (ap_run slE (L := ([] : List Sl28)) (b := b1) (fun h => absurd rfl h) (hx1 _ _) (by simp) (by simp) ?_)
            simp [← hH1, ← hc1, hs7, hunS, hlay0]
            refine ap_run slE (X := [(⟨k, p⟩ : Sl28)]) (fun hne => (F1.own hne).2) (isRows_sl rfl) (by simp) (by simp) ?_
            simp [← hH2, ← hc2, ← hW2, k2]
            refine ⟨⟨i2, j2, i2⟩, ap_run slE (fun hne => (F2.own hne).2) (hx3 _ _) (by simp) (by simp) ?_⟩
            simp [← hH3, ← hc3, ← hW3, q3, h1top, k3]
            exact ⟨⟨i3, j3, i3⟩, by have := F3.len; omega, by have := g1.lt; simpa using this, fun a h1 h2 => .inr h1⟩
          · simp [hs7, hunS, hlay0]
            refine .inl (ap_run slE (L := ([] : List Sl28)) (b := b1) (fun h => absurd rfl h) (hx1 _ _) (by simp) (by simp) ?_)
            simp [← hH1, ← hc1, hs7, hunS, hlay0]
            refine ap_run slE (X := [(⟨k, p⟩ : Sl28)]) (fun hne => (F1.own hne).2) (isRows_sl rfl) (by simp) (by simp) ?_
            simp [← hH2, ← hc2, ← hW2, k2]
            refine ⟨⟨i2, j2, i2⟩, ap_run slE (fun hne => (F2.own hne).2) (hx3 _ _) (by simp) (by simp) ?_⟩
            simp [← hH3, ← hc3, ← hW3, q3, h1top, k3]
            exact ⟨⟨i3, j3, i3⟩, by have := F3.len; omega, by have := g1.lt; simpa using this, fun a h1 h2 => .inr h1⟩
        · rw [lisV_some _ _ hl] at h1top
          have hx1' : IsRows slC h1 7 (.bsl b1 0 7 q0) (L1.take q0) := isRows_bsl slE (r1.list hl) (lo := 0) (hi := q0) (Nat.zero_le _) (by omega) (by omega) (by omega)
          simp [h1top, hself, hlen6, hun2, htk, hun, hlay]
          refine ⟨by omega, ?_, ?_⟩
          · refine .inl (ap_run slE (L := ([] : List Sl28)) (b := b1) (fun h => absurd rfl h) hx1' (by simp; omega) (by simp; omega) ?_)
            simp [← hH1, ← hc1, hs7, hunS, hlay0]
            refine ap_run slE (X := [(⟨k, p⟩ : Sl28)]) (fun hne => (F1.own hne).2) (isRows_sl rfl) (by simp; omega) (by simp; omega) ?_
            simp [← hH2, ← hc2, ← hW2, k2]
            refine ⟨⟨i2, j2, i2⟩, ap_run slE (fun hne => (F2.own hne).2) (hx3 hl) (by simp; omega) (by simp; omega) ?_⟩
            simp [← hH3, ← hc3, ← hW3, q3, h1top, k3]
            exact ⟨⟨i3, j3, i3⟩, by have := F3.len; omega, by have := g1.lt; simpa using this, fun a h1 h2 => .inr h1⟩
          · simp [hs7, hunS, hlay0]
            refine .inl (ap_run slE (L := ([] : List Sl28)) (b := b1) (fun h => absurd rfl h) hx1' (by simp; omega) (by simp; omega) ?_)
            simp [← hH1, ← hc1, hs7, hunS, hlay0]
            refine ap_run slE (X := [(⟨k, p⟩ : Sl28)]) (fun hne => (F1.own hne).2) (isRows_sl rfl) (by simp; omega) (by simp; omega) ?_
            simp [← hH2, ← hc2, ← hW2, k2]
            refine ⟨⟨i2, j2, i2⟩, ap_run slE (fun hne => (F2.own hne).2) (hx3 hl) (by simp; omega) (by simp; omega) ?_⟩
            simp [← hH3, ← hc3, ← hW3, q3, h1top, k3]
            exact ⟨⟨i3, j3, i3⟩, by have := F3.len; omega, by have := g1.lt; simpa using this, fun a h1 h2 => .inr h1⟩
  · rcases List.mem_cons.1 hq with e | hq
    · exact .inl e
    · exact w3 q hq hlt
  · rw [g4 q (by omega) n1, hs1 q (by simp; omega) n1 n2, List.getElem?_append_left hq]
end
end Go.Proofs.Ytmdapcmdlblnnaa.Ax
