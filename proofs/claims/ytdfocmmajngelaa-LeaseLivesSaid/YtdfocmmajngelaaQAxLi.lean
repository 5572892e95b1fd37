/- The document's leases, over values without memory. -/
import Derived.Test.YtdfocmmajngelaaQAxMi
import Derived.Test.YtdfocmmajngelaaQAxLg
/- Finding by a function in a variable's elements, over values without memory. No program is named here. -/
namespace Go.Proofs.Ytdfocmmajngelaa.Ax
open Go.RowKit Go By
set_option linter.unusedSimpArgs false
set_option maxRecDepth 10000

/-! ### A variable that is not written any more -/
@[simp] theorem frz_v (i : Nat) (cs : List AV) (x : Value) : (AV.v x).frz i cs = .v x := of_eq_true (eq_self _)
@[simp] theorem frz_any (i : Nat) (cs : List AV) : AV.any.frz i cs = .any := of_eq_true (eq_self _)
@[simp] theorem frz_box (i : Nat) (cs : List AV) (j o : Nat) : (AV.box j o).frz i cs = .box j o := of_eq_true (eq_self _)
@[simp] theorem frz_ro (i : Nat) (cs l : List AV) : (AV.ro l).frz i cs = .ro l := of_eq_true (eq_self _)
@[simp] theorem frz_sl (i : Nat) (cs : List AV) (k : Nat) (es : List (List AV)) (nul : Option Bool) (room : Room) : (AV.sl k es nul room).frz i cs = .sl k es nul room := of_eq_true (eq_self _)
@[simp] theorem frz_fn (i : Nat) (cs : List AV) (f : Fn) (a b : List AV) : (AV.fn f a b).frz i cs = .fn f a b := of_eq_true (eq_self _)
@[simp] theorem frz_agg (i : Nat) (cs l : List AV) : (AV.agg l).frz i cs = .agg l := of_eq_true (eq_self _)
@[simp] theorem frz_tup (i : Nat) (cs l : List AV) : (AV.tup l).frz i cs = .tup l := of_eq_true (eq_self _)
@[simp] theorem r_frzE_nil (i : Nat) (cs : List AV) : frzE i cs [] = [] := of_eq_true (eq_self _)
@[simp] theorem r_frzE_cons (i : Nat) (cs : List AV) (t : Nat) (a : AV) (r : List (Nat × AV)) : frzE i cs ((t, a) :: r) = (t, a.frz i cs) :: frzE i cs r := of_eq_true (eq_self _)
@[simp] theorem r_frz (i : Nat) (cs : List AV) (e o : List (Nat × AV)) (h : List (List AV)) (wr : List Nat) : (St.mk e o h wr).frz i cs = ⟨frzE i cs e, o, h.set i [], wr⟩ := of_eq_true (eq_self _)
end Go.Proofs.Ytdfocmmajngelaa.Ax
/- Lists in variables over values without memory: slices that are built by append onto nil, whose elements have two cells or more. No program is named here. -/
namespace Go.Proofs.Ytdfocmmajngelaa.Ax
open Go.RowKit Go By
set_option linter.unusedSimpArgs false
set_option linter.unusedVariables false
set_option maxRecDepth 10000

structure Elt {α : Type} (f : α → List AV) (k : Nat) : Prop where
  two : 2 ≤ k
  len : ∀ a, (f a).length = k
  plain : ∀ a, ∀ c ∈ f a, c.idOf = none
  lt : ∀ a n, ltL n (f a)
section
variable {α : Type} {f : α → List AV} {k : Nat}
theorem Elt.flat_len (he : Elt f k) (l : List α) : (enc f l).flatten.length = l.length * k := by
  induction l with
  | nil => simp
  | cons x l ih =>
    have e : enc f (x :: l) = f x :: enc f l := rfl
    rw [e, List.flatten_cons, List.length_append, ih, he.len, List.length_cons, Nat.add_mul]; omega
theorem Elt.at_ (he : Elt f k) : ∀ {l : List α} {j q : Nat} (hj : j < l.length) (hq : q < k), (enc f l).flatten[j * k + q]? = (f l[j])[q]?
  | x :: l, 0, q, _, hq => by
    have e : enc f (x :: l) = f x :: enc f l := rfl
    rw [e, List.flatten_cons, List.getElem?_append_left (by rw [he.len]; omega)]
    simp
  | x :: l, j + 1, q, hj, hq => by
    have e : enc f (x :: l) = f x :: enc f l := rfl
    have e1 : (j + 1) * k + q = k + (j * k + q) := by rw [Nat.add_mul]; omega
    rw [e, e1, List.flatten_cons, List.getElem?_append_right (by rw [he.len]; omega), he.len, show k + (j * k + q) - k = j * k + q by omega, he.at_ (by simpa using hj) hq]
    simp
theorem Elt.set (he : Elt f k) : ∀ {l : List α} {j q : Nat} (hj : j < l.length) (hq : q < k) (c : AV) (a : α), f a = (f l[j]).set q c → (enc f l).flatten.set (j * k + q) c = (enc f (l.set j a)).flatten
  | x :: l, 0, q, _, hq, c, a, ha => by
    have e : enc f (x :: l) = f x :: enc f l := rfl
    rw [e, List.flatten_cons, List.set_append_left _ _ (by rw [he.len]; omega)]
    have e2 : enc f ((x :: l).set 0 a) = f a :: enc f l := rfl
    rw [e2, List.flatten_cons, ha]
    simp
  | x :: l, j + 1, q, hj, hq, c, a, ha => by
    have e : enc f (x :: l) = f x :: enc f l := rfl
    have e1 : (j + 1) * k + q = k + (j * k + q) := by rw [Nat.add_mul]; omega
    rw [e, e1, List.flatten_cons, List.set_append_right _ _ (by rw [he.len]; omega), he.len, show k + (j * k + q) - k = j * k + q by omega, he.set (by simpa using hj) hq c a (by simpa using ha)]
    rfl
theorem Elt.take (he : Elt f k) : ∀ (l : List α) (j : Nat), (enc f l).flatten.take (j * k) = (enc f (l.take j)).flatten
  | [], j => by simp [enc]
  | x :: l, 0 => by simp [enc]
  | x :: l, j + 1 => by
    have e : enc f (x :: l) = f x :: enc f l := rfl
    have e2 : enc f (x :: l.take j) = f x :: enc f (l.take j) := rfl
    have e3 : (j + 1) * k = k + j * k := by rw [Nat.add_mul]; omega
    rw [List.take_succ_cons, e, e2, e3, List.flatten_cons, List.flatten_cons, List.take_append, he.len, show k + j * k - k = j * k by omega, he.take l j, List.take_of_length_le (by rw [he.len]; omega)]
theorem Elt.drop (he : Elt f k) : ∀ (l : List α) (j : Nat), (enc f l).flatten.drop (j * k) = (enc f (l.drop j)).flatten
  | [], j => by simp [enc]
  | x :: l, 0 => by simp [enc]
  | x :: l, j + 1 => by
    have e : enc f (x :: l) = f x :: enc f l := rfl
    have e3 : (j + 1) * k = k + j * k := by rw [Nat.add_mul]; omega
    rw [List.drop_succ_cons, e, e3, List.flatten_cons, List.drop_append, he.len, show k + j * k - k = j * k by omega, he.drop l j, List.drop_of_length_le (by rw [he.len]; omega), List.nil_append]
theorem Elt.flat_lt (he : Elt f k) (n : Nat) (l : List α) : ltL n (enc f l).flatten := ltL_of fun j c hj => by
  obtain ⟨e, he2, hc⟩ := List.mem_flatten.1 (List.mem_of_getElem? hj)
  obtain ⟨s, _, rfl⟩ := List.mem_map.1 he2
  obtain ⟨q, hq⟩ := List.getElem?_of_mem hc
  exact ltL_get (he.lt s n) q c hq
/-- A list of one's own behind a heap. -/
structure OwnL (f : α → List AV) (k : Nat) (h0 h : List (List AV)) (b : Nat) (L : List α) : Prop where
  len : h0.length ≤ h.length
  ext : ∀ q < h0.length, h[q]? = h0[q]?
  lt : ltLL h.length h
  plain : plainH h0 → plainH h
  own : L ≠ [] → h0.length ≤ b ∧ h[b]? = some (enc f L).flatten
theorem OwnL.nil {h : List (List AV)} (hh : ltLL h.length h) (b : Nat) : OwnL f k h h b ([] : List α) := ⟨Nat.le_refl _, fun _ _ => rfl, hh, fun h => h, fun h => absurd rfl h⟩
end
end Go.Proofs.Ytdfocmmajngelaa.Ax
namespace Go.Proofs.Ytdfocmmajngelaa.Ax
open Go.RowKit Go By
set_option linter.unusedSimpArgs false
set_option linter.unusedVariables false
set_option maxRecDepth 10000

def oneC (x : Int × Int) : List AV := [.v (.int .i64 x.1), .v (.int .i64 x.2)]
theorem oneE : Elt oneC 2 := ⟨by decide, fun _ => rfl, fun a c hc => by simp [oneC] at hc; rcases hc with rfl | rfl <;> rfl, fun a n => by simp [oneC]⟩
structure RlAt2 (h : List (List AV)) (i b : Nat) (D : Ser) : Prop where
  top : h[i]? = some [.bsl b 0 2 D.length]
  st : h[b]? = some (enc oneC D).flatten
  ne : i ≠ b
  len : 1 ≤ D.length ∧ D.length ≤ 8
/-- The servers, as they are then. -/
def rlH (h : List (List AV)) (b : Nat) (D : Ser) : List (List AV) := h.set b (enc oneC D).flatten
theorem one_set {D : Ser} {j : Nat} (hj : j < D.length) (v : Int × Int) : ((enc oneC D).flatten.set (j * 2) (.v (.int .i64 v.1))).set (j * 2 + 1) (.v (.int .i64 v.2)) = (enc oneC (D.set j v)).flatten := by
  have h1 := oneE.set (l := D) (j := j) (q := 0) hj (by decide) (.v (.int .i64 v.1)) (v.1, D[j].2) rfl
  have hj2 : j < (D.set j (v.1, D[j].2)).length := by simpa using hj
  have h2 := oneE.set (l := D.set j (v.1, D[j].2)) (j := j) (q := 1) hj2 (by decide) (.v (.int .i64 v.2)) v (by simp [oneC])
  rw [Nat.add_zero] at h1
  rw [h1, h2, List.set_set]
theorem one_flat_len (D : Ser) : (enc oneC D).flatten.length = D.length * 2 := oneE.flat_len D
theorem one_a {D : Ser} {j : Nat} (hj : j < D.length) : (enc oneC D).flatten[j * 2]? = some (.v (.int .i64 D[j].1)) := by have := oneE.at_ (l := D) (j := j) (q := 0) hj (by decide); simpa [oneC] using this
theorem one_b {D : Ser} {j : Nat} (hj : j < D.length) : (enc oneC D).flatten[j * 2 + 1]? = some (.v (.int .i64 D[j].2)) := by have := oneE.at_ (l := D) (j := j) (q := 1) hj (by decide); simpa [oneC] using this
section
variable {h : List (List AV)} {i b : Nat} {D : Ser}
theorem RlAt2.i_lt (hr : RlAt2 h i b D) : i < h.length := (List.getElem?_eq_some_iff.1 hr.top).1
theorem RlAt2.b_lt (hr : RlAt2 h i b D) : b < h.length := (List.getElem?_eq_some_iff.1 hr.st).1
theorem RlAt2.move {h2 : List (List AV)} (hr : RlAt2 h i b D) (h1 : h2[i]? = h[i]?) (h3 : h2[b]? = h[b]?) : RlAt2 h2 i b D := ⟨h1.trans hr.top, h3.trans hr.st, hr.ne, hr.len⟩
theorem RlAt2.app (hr : RlAt2 h i b D) (xs : List (List AV)) : RlAt2 (h ++ xs) i b D := hr.move (List.getElem?_append_left hr.i_lt) (List.getElem?_append_left hr.b_lt)
theorem RlAt2.turn (hr : RlAt2 h i b D) {D2 : Ser} (hl : D2.length = D.length) : RlAt2 (rlH h b D2) i b D2 := by
  refine ⟨?_, List.getElem?_set_self hr.b_lt, hr.ne, by rw [hl]; exact hr.len⟩
  unfold rlH
  rw [List.getElem?_set_ne (Ne.symm hr.ne), hl]; exact hr.top
theorem RlAt2.same (hr : RlAt2 h i b D) : rlH h b D = h := set_same hr.st
theorem rlH_len (h : List (List AV)) (b : Nat) (D : Ser) : (rlH h b D).length = h.length := by unfold rlH; simp
theorem rlH_lt {h : List (List AV)} (hh : ltLL h.length h) (b : Nat) (D : Ser) : ltLL h.length (rlH h b D) := ltLL_set hh (oneE.flat_lt _ _)
theorem rlnew_c (h : List (List AV)) {n : Nat} (h1 : 1 ≤ n) (h8 : n ≤ 8) : Contract Try.prog 9 [.v (.int .i64 n)] h (.tup [.box (h.length + 1) 0, .v (.int .i64 0)]) (h ++ [(enc oneC (List.replicate n (0, 0))).flatten, [.bsl h.length 0 2 n]]) [] := by
  refine contract_of k9 mixedLe (by simp [c9]) fun hh hargs => ?_
  have hl2 := ltLL_mono (Nat.le_add_right h.length 2) hh
  have g1 : ¬ (n : Int) < 1 := by omega
  have g2 : ¬ (8 : Int) < (n : Int) := by omega
  have g3 : ¬ n = 0 := by omega
  have g4 : (List.replicate n [AV.v (.int .i64 0), AV.v (.int .i64 0)]).flatten = (enc oneC (List.replicate n ((0, 0) : Int × Int))).flatten := by
    simp [enc, oneC]
  have g5 : ∀ m, ltL m (enc oneC (List.replicate n ((0, 0) : Int × Int))).flatten := fun m => oneE.flat_lt m _
  simp [c9, g1, g2, g3, g4, hl2, g5]
  omega
theorem rlnew_no (h : List (List AV)) {n : Int} (hn : n < 1 ∨ 8 < n) : Contract Try.prog 9 [.v (.int .i64 n)] h (.tup [.v (.pointer none), .v (.int .i64 1)]) h [] := by
  refine contract_of k9 mixedLe (by simp [c9]) fun hh hargs => ?_
  by_cases g1 : n < 1
  · simp [c9, g1, hh]
  · have g2 : (8 : Int) < n := by omega
    simp [c9, g1, g2, hh]
theorem rlhas_c (hr : RlAt2 h i b D) (s : Int) : Contract Try.prog 40 [.box i 0, .v (.int .i64 s)] h (.v (.bool (hasD D s))) h [] := by
  have h1 := hr.top
  refine contract_of k40 mixedLe (by simp [c40]) fun hh hargs => ?_
  unfold hasD
  by_cases h0 : 0 ≤ s
  · simp [c40, h1, hh, h0]
  · simp [c40, h1, hh, h0]
theorem rlstate_c (hr : RlAt2 h i b D) (s : Int) : Contract Try.prog 13 [.box i 0, .v (.int .i64 s)] h (.v (.int .i64 (stD D s))) h [] := by
  have h1 := hr.top
  have h2 := hr.st
  refine contract_of k13 mixedLe (by simp [c13]) fun hh hargs => ?_
  unfold stD
  simp [c13]
  refine xcall_self (by simp) (rlhas_c hr s) ?_
  cases hs : hasD D s with
  | false => simp [hh]
  | true =>
    have hs2 : 0 ≤ s ∧ s < D.length := by simpa [hasD] using hs
    obtain ⟨j, rfl⟩ : ∃ j : Nat, s = (j : Int) := ⟨s.toNat, by omega⟩
    have hj : j < D.length := by omega
    have h3 := one_a hj
    simp [h1, h2, hh, hj, h3, List.getD_eq_getElem?_getD]
    done
theorem rlhold_c (hr : RlAt2 h i b D) (s : Int) : Contract Try.prog 18 [.box i 0, .v (.int .i64 s)] h (.tup [.v (.int .i64 (holD D s).1), .v (.bool (holD D s).2)]) h [] := by
  have h1 := hr.top
  have h2 := hr.st
  refine contract_of k18 mixedLe (by simp [c18]) fun hh hargs => ?_
  simp [c18]
  refine xcall_self (by simp) (rlstate_c hr s) ?_
  unfold holD
  by_cases h3 : stD D s = 3
  · have hs : hasD D s = true := by
      cases hs : hasD D s with
      | true => rfl
      | false => unfold stD at h3; rw [hs] at h3; cases h3
    have hs2 : 0 ≤ s ∧ s < D.length := by simpa [hasD] using hs
    obtain ⟨j, rfl⟩ : ∃ j : Nat, s = (j : Int) := ⟨s.toNat, by omega⟩
    have hj : j < D.length := by omega
    have h4 := one_b hj
    simp [h3, h1, h2, hh, hj, h4, List.getD_eq_getElem?_getD]
    done
  · have h3b : (stD D s != 3) = true := by simpa using h3
    simp [h3, h3b, hh]
theorem ofAt_cons (c : Int) (x : Int × Int) (r : Ser) (j : Nat) : ofAt c (x :: r) j = if x.1 = 3 ∧ x.2 = c then some j else ofAt c r (j + 1) := rfl
theorem rlof_c (hr : RlAt2 h i b D) (c : Int) : Contract Try.prog 20 [.box i 0, .v (.int .i64 c)] h (.tup [.v (.int .i64 (ofD D c).1), .v (.bool (ofD D c).2)]) h [] := by
  have h1 := hr.top
  have h2 := hr.st
  have hi := hr.i_lt
  have hlen := hr.len
  refine contract_of k20 mixedLe (by simp [c20]) fun hh hargs => ?_
  simp [c20]
  refine xloop_ok (D := Nat) (fun j => ⟨[(0, .box i 0), (1, .v (.int .i64 c)), (6, .v (.int .i64 (j : Int)))], [], h, []⟩) (fun j => j ≤ D.length ∧ ofAt c (D.drop j) j = ofAt c D 0) (fun j => D.length - j) 0 ⟨Nat.zero_le _, rfl⟩ ?_ ?_
  · simp [Leq, hh, hi]
  · rintro j ⟨hj, ho⟩
    by_cases hlt : j < D.length
    · have hw : IntKind.i64.wrap ((j : Int) + 1) = (j : Int) + 1 := wrap64 (by omega) (by omega)
      have ea := one_a hlt
      have eb := one_b hlt
      rw [List.drop_eq_getElem_cons hlt, ofAt_cons] at ho
      simp [h1, h2, hlt]
      by_cases g1 : D[j].1 = 3
      · by_cases g2 : D[j].2 = c
        · rw [if_pos ⟨g1, g2⟩] at ho
          have hof : ofD D c = ((j : Int), true) := by unfold ofD; rw [← ho]
          simp [h1, h2, hlt, ea, eb, g1, g2, hof, hh]
        · rw [if_neg fun e => g2 e.2] at ho
          have g2b : (D[j].2 == c) = false := by simpa using g2
          simp [h1, h2, hlt, ea, eb, g1, g2, g2b, hw]
          refine ⟨j + 1, ⟨by omega, ho⟩, by omega, ?_⟩
          simp [Leq, hh, hi]
      · rw [if_neg fun e => g1 e.1] at ho
        have g1b : (D[j].1 == 3) = false := by simpa using g1
        simp [h1, h2, hlt, ea, eb, g1, g1b, hw]
        refine ⟨j + 1, ⟨by omega, ho⟩, by omega, ?_⟩
        simp [Leq, hh, hi]
    · have hjl : j = D.length := by omega
      subst hjl
      rw [List.drop_length] at ho
      have hof : ofD D c = (0, false) := by unfold ofD; rw [← ho]; rfl
      simp [h1, hof, hh]
theorem rlidle_c (hr : RlAt2 h i b D) : Contract Try.prog 16 [.box i 0] h (.sl 1 (enc intC (idleD D)) none .no) h [] := by
  have h1 := hr.top
  have h2 := hr.st
  have hi := hr.i_lt
  have hl := hr.len
  refine contract_of k16 mixedLe (by simp [c16]) fun hh hargs => ?_
  simp [c16]
  refine xloop_ok (D := Nat) (fun j => ⟨[(0, .box i 0), (4, .v (.int .i64 (j : Int)))], [(3, .sl 1 (enc intC (idleAt (D.take j) 0)) none (.own (.new 3)))], h, []⟩) (fun j => j ≤ D.length) (fun j => D.length - j) 0 (Nat.zero_le _) ?_ ?_
  · simp [Leq, hh, hi, idleAt]
  · intro j hj
    by_cases hlt : j < D.length
    · have hw : IntKind.i64.wrap ((j : Int) + 1) = (j : Int) + 1 := wrap64 (by omega) (by omega)
      have ea := one_a hlt
      have h4 := idleAt_take D 0 j hlt
      have h5 := idleAt_len (D.take j) 0
      simp at h5
      simp [hlt, h1, h2]
      by_cases he : D[j].1 = 2
      · simp [ea, he, hw]
        refine ⟨by omega, by omega, j + 1, by omega, by omega, ?_⟩
        rw [h4, if_pos he, Nat.zero_add]
        simp [Leq, hh, hi, enc, intC]
        refine ltLL_of' fun q c hc => ?_
        obtain ⟨y, _, rfl⟩ := List.mem_map.1 (List.mem_of_getElem? hc)
        exact leC_lt _ _
      · simp [ea, he, hw]
        refine ⟨j + 1, by omega, by omega, ?_⟩
        rw [h4, if_neg he, List.append_nil]
        simp [Leq, hh, hi]
    · have hjl : j = D.length := by omega
      subst hjl
      have hres : ∀ m (es : List (List AV)), resOf m (.sl 1 es none (.own (.new 2))) = .sl 1 es none (.own .res) := fun _ _ => rfl
      simp [h1, hh, hres, idleD]
theorem rlstart_c (hr : RlAt2 h i b D) (s : Int) : Contract Try.prog 34 [.box i 0, .v (.int .i64 s)] h (.v (.int .i64 (startD D s).1)) (rlH h b (startD D s).2) [b] := by
  have h1 := hr.top
  have h2 := hr.st
  have hi := hr.i_lt
  refine contract_of k34 mixedLe (by simp [c34]) fun hh hargs => ?_
  unfold startD turnD
  simp [c34]
  refine xcall_self (by simp) (rlhas_c hr s) ?_
  cases hs : hasD D s with
  | false => simp [hr.same, hh]
  | true =>
    have hs2 : 0 ≤ s ∧ s < D.length := by simpa [hasD] using hs
    obtain ⟨j, rfl⟩ : ∃ j : Nat, s = (j : Int) := ⟨s.toNat, by omega⟩
    have hj : j < D.length := by omega
    have hst := stD_at hj
    have ea := one_a hj
    have eag : ∀ hx, (enc oneC D).flatten[j * 2]'hx = .v (.int .i64 D[j].1) := fun hx => by rw [List.getElem?_eq_getElem hx] at ea; injection ea
    have hset := one_set hj (1, 0)
    have hlt2 : ltLL h.length (h.set b (enc oneC (D.set j (1, 0))).flatten) := rlH_lt hh b (D.set j (1, 0))
    have hj2 : j * 2 + 2 ≤ D.length * 2 := by omega
    have hfl := one_flat_len D
    dsimp only at hset
    unfold mayS
    rw [hst]
    by_cases g : D[j].1 = 0
    · simp [h1, h2, hj, ea, eag, hfl, hj2, lay, hset, hh, hlt2, rlH, g]
    · have gb : (D[j].1 != 0) = true := by simpa using g
      simp [h1, h2, hj, ea, eag, hfl, hr.same, hh, g, gb]
theorem rlup_c (hr : RlAt2 h i b D) (s : Int) : Contract Try.prog 35 [.box i 0, .v (.int .i64 s)] h (.v (.int .i64 (upD D s).1)) (rlH h b (upD D s).2) [b] := by
  have h1 := hr.top
  have h2 := hr.st
  have hi := hr.i_lt
  refine contract_of k35 mixedLe (by simp [c35]) fun hh hargs => ?_
  unfold upD turnD
  simp [c35]
  refine xcall_self (by simp) (rlhas_c hr s) ?_
  cases hs : hasD D s with
  | false => simp [hr.same, hh]
  | true =>
    have hs2 : 0 ≤ s ∧ s < D.length := by simpa [hasD] using hs
    obtain ⟨j, rfl⟩ : ∃ j : Nat, s = (j : Int) := ⟨s.toNat, by omega⟩
    have hj : j < D.length := by omega
    have hst := stD_at hj
    have ea := one_a hj
    have eag : ∀ hx, (enc oneC D).flatten[j * 2]'hx = .v (.int .i64 D[j].1) := fun hx => by rw [List.getElem?_eq_getElem hx] at ea; injection ea
    have hset := one_set hj (2, 0)
    have hlt2 : ltLL h.length (h.set b (enc oneC (D.set j (2, 0))).flatten) := rlH_lt hh b (D.set j (2, 0))
    have hj2 : j * 2 + 2 ≤ D.length * 2 := by omega
    have hfl := one_flat_len D
    dsimp only at hset
    unfold mayU
    rw [hst]
    by_cases g : D[j].1 = 0
    · simp [h1, h2, hj, ea, eag, hfl, hr.same, hh, g]
    · by_cases g2 : D[j].1 = 2
      · simp [h1, h2, hj, ea, eag, hfl, hr.same, hh, g, g2]
      · have gb : (D[j].1 == 0) = false := by simpa using g
        have gb2 : (D[j].1 == 2) = false := by simpa using g2
        simp [h1, h2, hj, ea, eag, hfl, hj2, lay, hset, hh, hlt2, rlH, g, g2, gb, gb2]
theorem rldrain_c (hr : RlAt2 h i b D) (s : Int) : Contract Try.prog 36 [.box i 0, .v (.int .i64 s)] h (.v (.int .i64 (drainD D s).1)) (rlH h b (drainD D s).2) [b] := by
  have h1 := hr.top
  have h2 := hr.st
  have hi := hr.i_lt
  refine contract_of k36 mixedLe (by simp [c36]) fun hh hargs => ?_
  unfold drainD turnD
  simp [c36]
  refine xcall_self (by simp) (rlhas_c hr s) ?_
  cases hs : hasD D s with
  | false => simp [hr.same, hh]
  | true =>
    have hs2 : 0 ≤ s ∧ s < D.length := by simpa [hasD] using hs
    obtain ⟨j, rfl⟩ : ∃ j : Nat, s = (j : Int) := ⟨s.toNat, by omega⟩
    have hj : j < D.length := by omega
    have hst := stD_at hj
    have ea := one_a hj
    have eag : ∀ hx, (enc oneC D).flatten[j * 2]'hx = .v (.int .i64 D[j].1) := fun hx => by rw [List.getElem?_eq_getElem hx] at ea; injection ea
    have hset := one_set hj (4, 0)
    have hlt2 : ltLL h.length (h.set b (enc oneC (D.set j (4, 0))).flatten) := rlH_lt hh b (D.set j (4, 0))
    have hj2 : j * 2 + 2 ≤ D.length * 2 := by omega
    have hfl := one_flat_len D
    dsimp only at hset
    unfold mayD
    rw [hst]
    by_cases g : D[j].1 = 3
    · simp [h1, h2, hj, ea, eag, hfl, hj2, lay, hset, hh, hlt2, rlH, g]
    · have gb : (D[j].1 != 3) = true := by simpa using g
      simp [h1, h2, hj, ea, eag, hfl, hr.same, hh, g, gb]
theorem rldown_c (hr : RlAt2 h i b D) (s : Int) : Contract Try.prog 38 [.box i 0, .v (.int .i64 s)] h (.v (.int .i64 (downD D s).1)) (rlH h b (downD D s).2) [b] := by
  have h1 := hr.top
  have h2 := hr.st
  have hi := hr.i_lt
  refine contract_of k38 mixedLe (by simp [c38]) fun hh hargs => ?_
  unfold downD turnD
  simp [c38]
  refine xcall_self (by simp) (rlhas_c hr s) ?_
  cases hs : hasD D s with
  | false => simp [hr.same, hh]
  | true =>
    have hs2 : 0 ≤ s ∧ s < D.length := by simpa [hasD] using hs
    obtain ⟨j, rfl⟩ : ∃ j : Nat, s = (j : Int) := ⟨s.toNat, by omega⟩
    have hj : j < D.length := by omega
    have hst := stD_at hj
    have ea := one_a hj
    have eag : ∀ hx, (enc oneC D).flatten[j * 2]'hx = .v (.int .i64 D[j].1) := fun hx => by rw [List.getElem?_eq_getElem hx] at ea; injection ea
    have hset := one_set hj (0, 0)
    have hlt2 : ltLL h.length (h.set b (enc oneC (D.set j (0, 0))).flatten) := rlH_lt hh b (D.set j (0, 0))
    have hj2 : j * 2 + 2 ≤ D.length * 2 := by omega
    have hfl := one_flat_len D
    dsimp only at hset
    simp [h1, h2, hj, ea, eag, hfl, hj2, lay, hset, hh, hlt2, rlH]
set_option maxHeartbeats 1000000 in
theorem rllease_c (hr : RlAt2 h i b D) (c p : Int) : Contract Try.prog 37 [.box i 0, .v (.int .i64 c), .v (.int .i64 p)] h (.tup [.v (.int .i64 (leaseD D c p).1.1), .v (.int .i64 (leaseD D c p).1.2)]) (rlH h b (leaseD D c p).2) [b] := by
  have h1 := hr.top
  have h2 := hr.st
  have hil := idleAt_len D 0
  have hlen := hr.len
  refine contract_of k37 mixedLe (by simp [c37]) fun hh hargs => ?_
  unfold leaseD
  simp [c37]
  refine xcall_self (by simp) (rlof_c hr c) ?_
  cases ho : (ofD D c).2 with
  | true => simp [hr.same, hh]
  | false =>
    simp
    refine xcall_self (by simp) (rlidle_c hr) ?_
    by_cases hid : idleD D = []
    · simp [hid, hr.same, hh]
    · have hn : 0 < (idleD D).length := List.length_pos_iff.2 hid
      have h8 : (idleD D).length ≤ 8 := by unfold idleD; omega
      have hn0 : ¬ (idleD D).length = 0 := by omega
      have hn1 : ((idleD D).length == 0) = false := by simpa using hn0
      obtain ⟨p0, p1⟩ := placeI_lt (p := p) hn h8
      obtain ⟨k, hk⟩ : ∃ k : Nat, placeI p (idleD D).length = (k : Int) := ⟨(placeI p (idleD D).length).toNat, by omega⟩
      have hkp : Int.tmod (IntKind.i64.wrap (Int.tmod p (idleD D).length + (idleD D).length)) (idleD D).length = (k : Int) := hk
      rw [hk] at p1
      have hkl : k < (idleD D).length := by omega
      obtain ⟨j, hj1, c0, hj2⟩ := idleAt_mem D 0 _ (List.getElem_mem hkl)
      have hj1 : (idleD D)[k] = (j : Int) := by rw [hj1]; simp
      have hj : j < D.length := (List.getElem?_eq_some_iff.1 hj2).1
      have hgD : (idleD D)[k]?.getD 0 = (j : Int) := by simp [hkl, hj1]
      have hset := one_set hj (3, c)
      have hlt2 : ltLL h.length (h.set b (enc oneC (D.set j (3, c))).flatten) := rlH_lt hh b (D.set j (3, c))
      have hj3 : j * 2 + 2 ≤ D.length * 2 := by omega
      have hfl := one_flat_len D
      dsimp only at hset
      simp [h1, h2, hid, hk, hkp, hkl, hn0, hn1, hj1, hgD, hj, hfl, hj3, lay, hset, hlt2, rlH, intC, hh]
      done
set_option maxHeartbeats 1000000 in
theorem rldo_c (hr : RlAt2 h i b D) (d : Lk) : Contract Try.prog 11 [.box i 0, .agg (lkC d)] h (.v (.int .i64 (stepD D d).1)) (rlH h b (stepD D d).2) [b] := by
  obtain ⟨op, s, c, p⟩ := d
  have hra := hr.app [lkC ⟨op, s, c, p⟩]
  have hb := hr.b_lt
  have hcut : ∀ D2 : Ser, rlH (h ++ [lkC ⟨op, s, c, p⟩]) b D2 = rlH h b D2 ++ [lkC ⟨op, s, c, p⟩] := fun D2 => List.set_append_left _ _ hb
  have hlen : ∀ D2 : Ser, (rlH h b D2).length = h.length := fun D2 => rlH_len h b D2
  refine contract_of k11 mixedLe (by simp [c11]) fun hh hargs => ?_
  have hlt := fun D2 => rlH_lt hh b D2
  unfold stepD
  dsimp only
  have htk : ∀ (D2 : Ser) (xs : List (List AV)), (rlH h b D2 ++ xs).take h.length = rlH h b D2 := fun D2 xs => by rw [← hlen D2, List.take_left]
  by_cases h0 : op = 0
  · subst h0
    have hc := rlstart_c hra s
    rw [hcut] at hc
    simp only [lkC] at hc ⊢
    simp [c11]
    refine xcall_self (by simp) hc ?_
    simp [htk, hlt, hlen]
  by_cases h1 : op = 1
  · subst h1
    have hc := rlup_c hra s
    rw [hcut] at hc
    simp only [lkC] at hc ⊢
    simp [c11]
    refine xcall_self (by simp) hc ?_
    simp [htk, hlt, hlen]
  by_cases h4 : op = 4
  · subst h4
    have hc := rldrain_c hra s
    rw [hcut] at hc
    simp only [lkC] at hc ⊢
    simp [c11]
    refine xcall_self (by simp) hc ?_
    simp [htk, hlt, hlen]
  by_cases h2 : op = 2
  · subst h2
    have hc := rllease_c hra c p
    rw [hcut] at hc
    simp only [lkC] at hc ⊢
    simp [c11]
    refine xcall_self (by simp) hc ?_
    simp [htk, hlt, hlen]
  by_cases h3 : op = 3
  · subst h3
    have hc := rllease_c hra c p
    rw [hcut] at hc
    simp only [lkC] at hc ⊢
    simp [c11]
    refine xcall_self (by simp) hc ?_
    simp [htk, hlt, hlen]
  · skip
    have hc := rldown_c hra s
    rw [hcut] at hc
    simp only [lkC] at hc ⊢
    simp [c11, h0, h1, h2, h3, h4]
    refine xcall_self (by simp) hc ?_
    simp [htk, hlt, hlen, h0, h1, h2, h3, h4]
end
end Go.Proofs.Ytdfocmmajngelaa.Ax
