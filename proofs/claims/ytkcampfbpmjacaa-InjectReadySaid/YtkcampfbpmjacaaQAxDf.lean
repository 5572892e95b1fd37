/- slices.IndexFunc, slices.DeleteFunc and slices.Clone of numbers that lie in a variable, over values without memory. -/
import Derived.Test.YtkcampfbpmjacaaQAxX
import Derived.Test.YtkcampfbpmjacaaRows
import Derived.Test.YtkcampfbpmjacaaQAxIn
import Derived.Test.YtkcampfbpmjacaaQAxTz
import Derived.Test.YtkcampfbpmjacaaQAxBa
import Derived.Test.YtkcampfbpmjacaaQAxIb
import Derived.Test.YtkcampfbpmjacaaQCodeA
import Derived.Test.YtkcampfbpmjacaaQAxJd
/- The texts of functions over values without memory, as the kernel reckons them out of the program. -/
namespace Go.Proofs.Ytkcampfbpmjacaa.Ax
open Go.RowKit Go By

end Go.Proofs.Ytkcampfbpmjacaa.Ax
/- A few numbers, by when they were used last, over values without memory: the code's list. -/
namespace Go.Proofs.Ytkcampfbpmjacaa.Ax
open Go.RowKit Go By
set_option linter.unusedSimpArgs false
set_option linter.unusedVariables false
set_option maxRecDepth 10000

theorem first_at : ∀ {L : List Int} {x : Int}, x ∈ L → ∃ (k : Nat) (hk : k < L.length), L[k] = x ∧ ∀ j (hj : j < k), L[j]'(by omega) ≠ x
  | y :: L, x, h => by
    by_cases e : y = x
    · exact ⟨0, by simp, e, fun j hj => by omega⟩
    · have hx : x ∈ L := by
        rcases List.mem_cons.1 h with h | h
        · exact absurd h.symm e
        · exact h
      obtain ⟨k, hk, h1, h2⟩ := first_at hx
      refine ⟨k + 1, by simp; omega, by simpa using h1, fun j hj => ?_⟩
      cases j with
      | zero => simpa using e
      | succ j => simpa using h2 j (by omega)
theorem idx_hit {L : List Int} {x : Int} {k : Nat} (hk : k < L.length) (h1 : L[k] = x) (h2 : ∀ j (hj : j < k), L[j]'(by omega) ≠ x) : Lib.idxOf L x = (k : Int) := by
  have := Lib.idxOf_hit L L.length k x hk (Nat.le_refl _) (by rw [getD_at hk]; exact h1) (fun j hj => by rw [getD_at (by omega)]; exact h2 j hj)
  rwa [List.take_length] at this
theorem idx_miss {L : List Int} {x : Int} (h : x ∉ L) : Lib.idxOf L x = -1 := by
  have := Lib.idxOf_miss L L.length x (fun j hj => by rw [getD_at hj]; exact fun e => h (e ▸ List.getElem_mem hj))
  rwa [List.take_length] at this
theorem idx_has (L : List Int) (x : Int) : decide (0 ≤ Lib.idxOf L x) = L.contains x := by
  rw [Bool.eq_iff_iff, decide_eq_true_eq, Lib.idxOf_nonneg_iff]
/-- Without one. -/
def remI (L : List Int) (x : Int) : List Int := L.filter fun y => y != x
theorem remI_not {L : List Int} {x : Int} (h : x ∉ L) : remI L x = L := List.filter_eq_self.2 fun y hy => by simp; exact fun e => h (e ▸ hy)
theorem remI_at {L : List Int} (hn : L.Nodup) {x : Int} {k : Nat} (hk : k < L.length) (h1 : L[k] = x) : L.take k ++ L.drop (k + 1) = remI L x := by
  have e : L = L.take k ++ x :: L.drop (k + 1) := by
    rw [← h1, ← List.drop_eq_getElem_cons hk, List.take_append_drop]
  have hn2 : (L.take k ++ x :: L.drop (k + 1)).Nodup := by rw [← e]; exact hn
  rw [List.nodup_append] at hn2
  obtain ⟨_, h3, h4⟩ := hn2
  rw [List.nodup_cons] at h3
  have e2 : remI (L.take k ++ x :: L.drop (k + 1)) x = L.take k ++ L.drop (k + 1) := by
    unfold remI
    rw [List.filter_append, List.filter_cons]
    simp only [bne_self_eq_false, Bool.false_eq_true, if_false]
    rw [List.filter_eq_self.2 fun y hy => by simp; exact fun e => h4 y hy x (List.mem_cons_self ..) e, List.filter_eq_self.2 fun y hy => by simp; exact fun e => h3.1 (e ▸ hy)]
  rw [← e2, ← e]
theorem remI_len {L : List Int} (hn : L.Nodup) {x : Int} (h : x ∈ L) : (remI L x).length = L.length - 1 := by
  obtain ⟨k, hk, h1, _⟩ := first_at h
  rw [← remI_at hn hk h1]; simp; omega
theorem remI_nodup {L : List Int} (hn : L.Nodup) (x : Int) : (remI L x).Nodup := hn.filter _
theorem remI_mem {L : List Int} {x y : Int} : y ∈ remI L x ↔ y ∈ L ∧ y ≠ x := by unfold remI; rw [List.mem_filter]; simp
/-- Where the list's numbers are: none yet, or a variable's. -/
def liV : Option Nat → Nat → AV
  | none, _ => .sl 0 [] (some true) .exact
  | some b, n => .bsl b 0 1 n
@[simp] theorem liV_cells (o : Option Nat) (n : Nat) : (liV o n).cells = some [liV o n] := by cases o <;> rfl
@[simp] theorem liV_unown (o : Option Nat) (n : Nat) : (liV o n).unown = liV o n := by cases o <;> rfl
@[simp] theorem liV_id (o : Option Nat) (n : Nat) : (liV o n).idOf = none := by cases o <;> rfl
structure LrAt (lo : Nat) (h : List (List AV)) (i most : Nat) (o : Option Nat) (c L : List Int) : Prop where
  top : h[i]? = some [liV o L.length, .v (.int .i64 (most : Int))]
  emp : o = none → L = []
  row : ∀ b, o = some b → h[b]? = some (intsA c) ∧ c ≠ [] ∧ L.length ≤ c.length ∧ c.take L.length = L ∧ lo ≤ b ∧ b ≠ i
  low : lo ≤ i
  lt : ltLL h.length h
structure LrOk (most : Nat) (L : List Int) : Prop where
  nd : L.Nodup
  len : L.length ≤ most
  most : 1 ≤ most ∧ most ≤ 4096
theorem LrOk.rem {most : Nat} {L : List Int} (h : LrOk most L) (x : Int) : LrOk most (remI L x) := ⟨remI_nodup h.nd x, Nat.le_trans (List.length_filter_le _ _) h.len, h.most⟩
theorem LrOk.add {most : Nat} {L : List Int} (h : LrOk most L) {x : Int} (hx : x ∉ L) (hl : L.length < most) : LrOk most (L ++ [x]) := ⟨by rw [List.nodup_append]; exact ⟨h.nd, by simp, fun a ha b hb => by simp at hb; subst hb; exact fun e => hx (e ▸ ha)⟩, by simp; omega, h.most⟩
section
variable {lo : Nat} {h : List (List AV)} {i most : Nat} {o : Option Nat} {c L : List Int}
theorem LrAt.i_lt (ht : LrAt lo h i most o c L) : i < h.length := (List.getElem?_eq_some_iff.1 ht.top).1
theorem LrAt.move (ht : LrAt lo h i most o c L) {h' : List (List AV)} (hi : h'[i]? = h[i]?) (hb : ∀ b, o = some b → h'[b]? = h[b]?) (hlt : ltLL h'.length h') : LrAt lo h' i most o c L :=
  ⟨hi.trans ht.top, ht.emp, fun b e => by obtain ⟨h1, h2⟩ := ht.row b e; exact ⟨(hb b e).trans h1, h2⟩, ht.low, hlt⟩
theorem LrAt.app (ht : LrAt lo h i most o c L) (xs : List (List AV)) (hx : ltLL (h.length + xs.length) xs) : LrAt lo (h ++ xs) i most o c L :=
  ht.move (List.getElem?_append_left ht.i_lt) (fun b e => List.getElem?_append_left (List.getElem?_eq_some_iff.1 (ht.row b e).1).1) (by rw [ltLL_append, List.length_append]; exact ⟨ltLL_mono (Nat.le_add_right _ _) ht.lt, hx⟩)
end
end Go.Proofs.Ytkcampfbpmjacaa.Ax
/- A few numbers, by when they were used last, over values without memory: the code's list: what changes it; New; a list that no call made. -/
namespace Go.Proofs.Ytkcampfbpmjacaa.Ax
open Go.RowKit Go By
set_option linter.unusedSimpArgs false
set_option linter.unusedVariables false
set_option maxRecDepth 10000

theorem Contract.wrs {P : Program} {f : FuncId} {args : List AV} {h : List (List AV)} {r : AV} {h' : List (List AV)} {wr wr' : List Nat} (hc : Contract P f args h r h' wr) (hw : ∀ q ∈ wr, q ∈ wr') : Contract P f args h r h' wr' :=
  ⟨hc.1, fun G w vs cls h1 h2 h3 h4 h5 => (hc.2 G w vs cls h1 h2 h3 h4 h5).mono fun e w' he => by
    obtain ⟨v, G', cls', e1, A⟩ := he
    exact ⟨v, G', cls', e1, A.ext, A.ok, A.heap, A.ownh, A.sees, A.own, A.id, fun i hi hn => A.boxes i hi fun hh => hn (hw i hh), A.bufs⟩⟩
section
variable {env own : List (Nat × AV)} {h : List (List AV)} {wr : List Nat} {d : Option Nat} {K : St → List Nat → Prop}
theorem xap_e {x : Int} (hK : K (St.puts ⟨env, own, h ++ [intsA [x]], wr⟩ d (.bsl h.length 0 1 1) false) []) : xappendA ⟨env, own, h, wr⟩ 1 8 d (.sl 0 [] (some true) .exact) (.sl 1 [[.v (.int .i64 x)]] (some false) .exact) K :=
  .inr (.inl ⟨[[.v (.int .i64 x)]], by simp [rowsOf], by simp, by simp, .inl rfl, by simp, by simp, hK⟩)
theorem xap_b {b n : Nat} {c : List Int} {x : Int} (hb : h[b]? = some (intsA c)) (hc : c ≠ []) (hn : n ≤ c.length) (hbig : n ≤ 1000000) (hK : K (St.puts ⟨env, own, h.set b [] ++ [intsA (c.take n ++ [x])], b :: wr⟩ d (.bsl h.length 0 1 (n + 1)) false) []) : xappendA ⟨env, own, h, wr⟩ 1 8 d (.bsl b 0 1 n) (.sl 1 [[.v (.int .i64 x)]] (some false) .exact) K := by
  have e : (intsA c).take (n * 1) ++ [[AV.v (.int .i64 x)]].flatten = intsA (c.take n ++ [x]) := by rw [Nat.mul_one, intsA_take, intsA_append]; rfl
  refine .inr (.inl ⟨[[.v (.int .i64 x)]], by simp [rowsOf], by simp, by simp, rfl, intsA c, hb, fun h => hc (by unfold intsA at h; simpa using h), by simp; omega, intsA_plain c, by simp; omega, by simp; omega, ?_⟩)
  rw [e]; exact hK
end
/-- What a call that changes a list leaves. -/
def LDoes (f : FuncId) (args : List AV) (lo : Nat) (h : List (List AV)) (i most : Nat) (o : Option Nat) (r : AV) (L' : List Int) : Prop :=
  ∃ h' o' c', Contract Try.prog f args h r h' (i :: o.toList) ∧ LrAt lo h' i most o' c' L' ∧ (∀ q, q < h.length → q ≠ i → o ≠ some q → h'[q]? = h[q]?) ∧ h.length ≤ h'.length ∧ ∀ b, o' = some b → o = some b ∨ h.length ≤ b
def addE (most : Nat) (L : List Int) (x : Int) : Int := if L.contains x = true then 8 else if most ≤ L.length then 6 else 0
def addL (most : Nat) (L : List Int) (x : Int) : List Int := if L.contains x = true then L else if most ≤ L.length then L else L ++ [x]
def touchL (L : List Int) (x : Int) : List Int := if L.contains x = true then remI L x ++ [x] else L
section
variable {lo : Nat} {h : List (List AV)} {i most : Nat} {o : Option Nat} {c L : List Int}
theorem LDoes.same {f : FuncId} {args : List AV} {r : AV} (ht : LrAt lo h i most o c L) (hc : Contract Try.prog f args h r h []) : LDoes f args lo h i most o r L :=
  ⟨h, o, c, hc.wrs (fun q hq => by cases hq), ht, fun _ _ _ _ => rfl, Nat.le_refl _, fun b e => .inl e⟩
theorem LrAt.removed {b : Nat} (ht : LrAt lo h i most (some b) c L) {c' L' : List Int} (hl : c'.length = c.length) (hL : L'.length ≤ c'.length) (ht' : c'.take L'.length = L') : LrAt lo ((h.set b (intsA c')).set i [.bsl b 0 1 L'.length, .v (.int .i64 (most : Int))]) i most (some b) c' L' := by
  obtain ⟨h1, h2, h3, h4, h5, h6⟩ := ht.row b rfl
  have hi := ht.i_lt
  have hbl := (List.getElem?_eq_some_iff.1 h1).1
  refine ⟨by rw [List.getElem?_set_self (by simp; exact hi)]; rfl, fun e => (by cases e), fun b' e => ?_, ht.low, ?_⟩
  · injection e with e; subst e
    refine ⟨by rw [List.getElem?_set_ne (fun e => h6 e.symm), List.getElem?_set_self hbl], fun e => h2 (List.eq_nil_of_length_eq_zero (by rw [← hl, e]; rfl)), hL, ht', h5, h6⟩
  · rw [List.length_set, List.length_set]
    exact ltLL_set (ltLL_set ht.lt (by simp)) (by simp; exact hbl)
theorem LrOk.touch (ho : LrOk most L) (x : Int) : LrOk most (touchL L x) := by
  unfold touchL
  split
  · rename_i hc
    have hx : x ∈ L := by simpa using hc
    have hl : 0 < L.length := List.length_pos_of_mem hx
    exact (ho.rem x).add (fun h => (remI_mem.1 h).2 rfl) (by rw [remI_len ho.nd hx]; have := ho.len; omega)
  · exact ho
theorem LrOk.addL (ho : LrOk most L) (x : Int) : LrOk most (addL most L x) := by
  unfold Ax.addL
  split
  · exact ho
  · split
    · exact ho
    · rename_i h1 h2
      exact ho.add (by simpa using h1) (by omega)
/-! ### New -/
def newLr (h : List (List AV)) (most : Nat) : List (List AV) := h ++ [[.sl 0 [] (some true) .exact, .v (.int .i64 (most : Int))]]
theorem newLr_at (hh : ltLL h.length h) (most : Nat) (hlo : lo ≤ h.length) : LrAt lo (newLr h most) h.length most none [] [] := by
  refine ⟨by unfold newLr; simp [liV], fun _ => rfl, fun b e => (by cases e), hlo, ?_⟩
  unfold newLr
  rw [List.length_append]
  exact ltLL_append.2 ⟨ltLL_mono (Nat.le_add_right _ _) hh, by simp⟩
theorem newLr_ok {most : Nat} (h1 : 1 ≤ most) (h2 : most ≤ 4096) : LrOk most [] := ⟨List.nodup_nil, Nat.zero_le _, h1, h2⟩
end
end Go.Proofs.Ytkcampfbpmjacaa.Ax
namespace Go.Proofs.Ytkcampfbpmjacaa.Ax
open Go.RowKit Go By
set_option linter.unusedSimpArgs false
set_option linter.unusedVariables false
set_option maxRecDepth 10000

section
variable {h : List (List AV)} {b n : Nat} {c : List Int} {g : FuncId} {first cap : List AV} {p : Int → Bool}
theorem idxf_b (hb : h[b]? = some (intsA c)) (hn : n ≤ c.length) (hbig : n ≤ 1000000) (hid : ∀ y ∈ first ++ cap, y.idOf = none) (hg : ∀ x, Contract Try.prog g (first ++ [.v (.int .i64 x)] ++ cap) h (.v (.bool (p x))) h []) :
    Contract Try.prog 83 [.bsl b 0 1 n, .fn (.func g) first cap] h (.v (.int .i64 (idxI p (c.take n)))) h [] := by
  have hbl := (List.getElem?_eq_some_iff.1 hb).1
  refine contract_of k83 mixed (by simp [c83]) fun hh hargs => ?_
  simp at hargs
  simp [c83]
  refine xloop_ok (D := Nat) (fun j => ⟨[(0, .bsl b 0 1 n), (1, .fn (.func g) first cap), (7, .v (.int .i64 (n : Int))), (8, .v (.int .i64 (j : Int)))], [], h, []⟩) (fun j => j ≤ n ∧ ∀ x ∈ (c.take n).take j, p x = false) (fun j => n - j) 0 (by simp) ?_ ?_
  · simp [Leq, hh, hargs, leqH_take]
    done
  · rintro j ⟨hj, hp⟩
    by_cases hlt : j < n
    · have hjc : j < c.length := by omega
      have hjt : j < (c.take n).length := by rw [List.length_take]; omega
      have e2 := intsA_get hjc
      have hw : IntKind.i64.wrap ((j : Int) + 1) = (j : Int) + 1 := wrap64 (by omega) (by omega)
      have et : (c.take n)[j] = c[j] := by rw [List.getElem_take]
      have hq : ∀ y ∈ first ++ [AV.v (.int .i64 c[j])] ++ cap, y.idOf = none := fun y hy => by
        rcases List.mem_append.1 hy with hy | hy
        · rcases List.mem_append.1 hy with hy | hy
          · exact hid y (List.mem_append_left _ hy)
          · rw [List.mem_singleton.1 hy]; rfl
        · exact hid y (List.mem_append_right _ hy)
      simp [hlt, hb, e2]
      refine ⟨fun y hy => hid y (by simpa using hy), ?_⟩
      have hgx := hg c[j]
      simp at hgx hq
      refine xcall_self (by simpa using hq) hgx ?_
      simp
      cases hpx : p c[j] with
      | true =>
        have := idxI_of hjt hp (by rw [et]; exact hpx)
        simp [hh, this]
        done
      | false =>
        simp [hw]
        refine ⟨j + 1, ⟨by omega, take_none hjt hp (by rw [et]; exact hpx)⟩, by omega, ?_⟩
        simp [Leq, hh, hargs, leqH_take]
        done
    · have : j = n := by omega
      subst this
      have hz : ∀ x ∈ c.take j, p x = false := by
        have : (c.take j).take j = c.take j := by rw [List.take_take, Nat.min_self]
        rwa [this] at hp
      simp [hh, idxI_none hz]
      done
theorem lay_mid {A B D l : List AV} (hl : l.length = B.length) : lay (A ++ (B ++ D)) A.length l = A ++ (l ++ D) := by
  apply List.ext_getElem?
  intro j
  rw [lay_get _ _ _ _ (by simp; omega)]
  split
  · rename_i hj
    rw [List.getElem?_append_right (by omega), List.getElem?_append_left (by omega)]
  · rename_i hj
    by_cases h1 : j < A.length
    · rw [List.getElem?_append_left h1, List.getElem?_append_left h1]
    · rw [List.getElem?_append_right (by omega), List.getElem?_append_right (by omega), List.getElem?_append_right (by omega), List.getElem?_append_right (by omega), hl]
/-- What is kept of the first j. -/
def dfK (p : Int → Bool) (zs : List Int) (j : Nat) : List Int := (zs.take j).filter fun x => !p x
/-- What lies there, the first j looked at. -/
def dfC (p : Int → Bool) (c : List Int) (n j : Nat) : List Int := dfK p (c.take n) j ++ c.drop (dfK p (c.take n) j).length
theorem dfK_le (zs : List Int) (j : Nat) : (dfK p zs j).length ≤ j := Nat.le_trans (List.length_filter_le _ _) (by rw [List.length_take]; omega)
theorem dfC_len (hn : n ≤ c.length) {j : Nat} (hj : j ≤ n) : (dfC p c n j).length = c.length := by
  have := dfK_le (p := p) (c.take n) j
  unfold dfC; rw [List.length_append, List.length_drop]; omega
theorem dfC_at (hn : n ≤ c.length) {j q : Nat} (hj : j ≤ q) (hq : q < c.length) : (dfC p c n j)[q]? = some c[q] := by
  have := dfK_le (p := p) (c.take n) j
  unfold dfC
  rw [List.getElem?_append_right (by omega), List.getElem?_drop, show (dfK p (c.take n) j).length + (q - (dfK p (c.take n) j).length) = q by omega, List.getElem?_eq_getElem hq]
theorem dfK_no (hn : n ≤ c.length) {j : Nat} (hj : j < n) (hp : p (c[j]'(by omega)) = true) : dfK p (c.take n) (j + 1) = dfK p (c.take n) j := by
  have hjt : j < (c.take n).length := by rw [List.length_take]; omega
  have et : (c.take n)[j] = c[j]'(by omega) := by rw [List.getElem_take]
  unfold dfK
  rw [take_next hjt, List.filter_append, et]
  simp [hp]
theorem dfK_yes (hn : n ≤ c.length) {j : Nat} (hj : j < n) (hp : p (c[j]'(by omega)) = false) : dfK p (c.take n) (j + 1) = dfK p (c.take n) j ++ [c[j]'(by omega)] := by
  have hjt : j < (c.take n).length := by rw [List.length_take]; omega
  have et : (c.take n)[j] = c[j]'(by omega) := by rw [List.getElem_take]
  unfold dfK
  rw [take_next hjt, List.filter_append, et]
  simp [hp]
theorem dfC_no (hn : n ≤ c.length) {j : Nat} (hj : j < n) (hp : p (c[j]'(by omega)) = true) : dfC p c n (j + 1) = dfC p c n j := by
  unfold dfC; rw [dfK_no hn hj hp]
theorem dfC_yes (hn : n ≤ c.length) {j : Nat} (hj : j < n) (hp : p (c[j]'(by omega)) = false) : dfC p c n (j + 1) = (dfC p c n j).set (dfK p (c.take n) j).length (c[j]'(by omega)) := by
  have hk := dfK_le (p := p) (c.take n) j
  unfold dfC
  rw [dfK_yes hn hj hp, List.set_append_right _ _ (Nat.le_refl _), Nat.sub_self, List.length_append, List.length_singleton]
  rw [List.drop_eq_getElem_cons (show (dfK p (c.take n) j).length < c.length by omega), List.set_cons_zero]
  simp
theorem intsA_set (l : List Int) (i : Nat) (x : Int) : (intsA l).set i (.v (.int .i64 x)) = intsA (l.set i x) := by unfold intsA; rw [List.map_set]
def keptL (p : Int → Bool) (c : List Int) (n : Nat) : List Int := (c.take n).filter fun x => !p x
theorem dfK_all : dfK p (c.take n) n = keptL p c n := by unfold dfK keptL; rw [List.take_take, Nat.min_self]
theorem keptL_le (hn : n ≤ c.length) : (keptL p c n).length ≤ n := Nat.le_trans (List.length_filter_le _ _) (by rw [List.length_take]; omega)
def delfL (p : Int → Bool) (c : List Int) (n : Nat) : List Int := keptL p c n ++ (List.replicate (n - (keptL p c n).length) 0 ++ c.drop n)
theorem delfL_len (hn : n ≤ c.length) : (delfL p c n).length = c.length := by
  have := keptL_le (p := p) hn
  unfold delfL; simp; omega
theorem delfL_take : (delfL p c n).take (keptL p c n).length = keptL p c n := by unfold delfL; rw [List.take_left']; rfl
theorem delf_b (hb : h[b]? = some (intsA c)) (hn : n ≤ c.length) (hbig : n ≤ 1000000) (hid : ∀ y ∈ first ++ cap, y.idOf = none) (hg : ∀ c', c'.length = c.length → ∀ x, Contract Try.prog g (first ++ [.v (.int .i64 x)] ++ cap) (h.set b (intsA c')) (.v (.bool (p x))) (h.set b (intsA c')) []) :
    Contract Try.prog 92 [.bsl b 0 1 n, .fn (.func g) first cap] h (.bsl b 0 1 (keptL p c n).length) (h.set b (intsA (delfL p c n))) [b] := by
  have hbl := (List.getElem?_eq_some_iff.1 hb).1
  have hset : h.set b (intsA c) = h := by
    rw [← (List.getElem?_eq_some_iff.1 hb).2]; exact List.set_getElem_self hbl
  have hg0 := hg c rfl
  rw [hset] at hg0
  have hzl : (c.take n).length = n := by rw [List.length_take]; omega
  refine contract_of k92 mixed (by simp [c92]) fun hh hargs => ?_
  simp at hargs
  simp [c92]
  refine xcall_self (by simp) (idxf_b hb hn hbig hid hg0) ?_
  by_cases hno : ∀ x ∈ c.take n, p x = false
  · have hk : keptL p c n = c.take n := List.filter_eq_self.2 fun x hx => by rw [hno x hx]; rfl
    have hd : delfL p c n = c := by unfold delfL; rw [hk, hzl, Nat.sub_self]; simp
    rw [hk, hd, hset, hzl]
    simp [idxI_none hno, hh, hbl, leqH_take]
    done
  · obtain ⟨k, hkn, hpk, hbef⟩ : ∃ k, ∃ hk : k < (c.take n).length, p (c.take n)[k] = true ∧ ∀ x ∈ (c.take n).take k, p x = false := by
      have key : ∀ l : List Int, (¬ ∀ x ∈ l, p x = false) → ∃ k, ∃ hk : k < l.length, p l[k] = true ∧ ∀ x ∈ l.take k, p x = false := fun l => by
        induction l with
        | nil => intro h; exact absurd (fun x hx => by cases hx) h
        | cons y r ih =>
          intro h
          cases hy : p y with
          | true => exact ⟨0, by simp, hy, fun x hx => by simp at hx⟩
          | false =>
            obtain ⟨k, hk, h1, h2⟩ := ih fun hr => h fun x hx => by
              rcases List.mem_cons.1 hx with rfl | hx
              · exact hy
              · exact hr x hx
            refine ⟨k + 1, by simp; omega, by simpa using h1, fun x hx => ?_⟩
            rw [List.take_succ_cons] at hx
            rcases List.mem_cons.1 hx with rfl | hx
            · exact hy
            · exact h2 x hx
      exact key _ hno
    have hk2 : k < n := by omega
    have hidx := idxI_of hkn hbef hpk
    have hpk2 : p (c[k]'(by omega)) = true := by rw [List.getElem_take] at hpk; exact hpk
    have k0 : dfK p (c.take n) (k + 1) = (c.take n).take k := by
      rw [dfK_no hn hk2 hpk2]
      exact List.filter_eq_self.2 fun x hx => by rw [hbef x hx]; rfl
    have k0l : (dfK p (c.take n) (k + 1)).length = k := by rw [k0, List.length_take]; omega
    have c0 : dfC p c n (k + 1) = c := by
      unfold dfC; rw [k0, List.length_take, List.take_take, show min k n = k by omega, show min k (c.take n).length = k by omega]
      exact List.take_append_drop k c
    have n1 : ¬ (k : Int) = -1 := by omega
    have hw1 : IntKind.i64.wrap ((k : Int) + 1) = (k : Int) + 1 := wrap64 (by omega) (by omega)
    simp [hidx, n1, hw1]
    refine xloop_ok (D := Nat) (fun j => ⟨[(0, .bsl b 0 1 n), (1, .fn (.func g) first cap), (5, .v (.int .i64 ((dfK p (c.take n) j).length : Int))), (6, .v (.int .i64 (j : Int)))], [], h.set b (intsA (dfC p c n j)), [b]⟩) (fun j => j ≤ n ∧ k + 1 ≤ j) (fun j => n - j) (k + 1) ⟨by omega, Nat.le_refl _⟩ ?_ ?_
    · rw [k0l, c0, hset]
      simp [Leq, hh, hargs, leqH_take]
      done
    · rintro j ⟨hj, hkj⟩
      have hCl := dfC_len (p := p) hn hj
      have hKl := dfK_le (p := p) (c.take n) j
      by_cases hlt : j < n
      · have hjc : j < c.length := by omega
        have e2 := dfC_at (p := p) hn (Nat.le_refl j) hjc
        have e3 : (intsA (dfC p c n j))[j]? = some (.v (.int .i64 c[j])) := by unfold intsA; rw [List.getElem?_map, e2]; rfl
        have hw : IntKind.i64.wrap ((j : Int) + 1) = (j : Int) + 1 := wrap64 (by omega) (by omega)
        have hq : ∀ y ∈ first ++ [AV.v (.int .i64 c[j])] ++ cap, y.idOf = none := fun y hy => by
          rcases List.mem_append.1 hy with hy | hy
          · rcases List.mem_append.1 hy with hy | hy
            · exact hid y (List.mem_append_left _ hy)
            · rw [List.mem_singleton.1 hy]; rfl
          · exact hid y (List.mem_append_right _ hy)
        have hgx := hg (dfC p c n j) hCl c[j]
        simp at hgx hq
        simp [hlt, hbl, e3]
        refine ⟨fun y hy => hid y (by simpa using hy), ?_⟩
        refine xcall_self (by simpa using hq) hgx ?_
        simp
        cases hpx : p c[j] with
        | true =>
          simp [hw]
          refine ⟨j + 1, ⟨by omega, by omega⟩, by omega, ?_⟩
          rw [dfK_no hn hlt hpx, dfC_no hn hlt hpx]
          simp [Leq, hh, hargs, leqH_take, hbl]
          done
        | false =>
          have hKn : (dfK p (c.take n) j).length < n := by omega
          have hKc : (dfK p (c.take n) j).length < (intsA (dfC p c n j)).length := by rw [intsA_length, hCl]; omega
          have hw2 : IntKind.i64.wrap (((dfK p (c.take n) j).length : Int) + 1) = ((dfK p (c.take n) j).length : Int) + 1 := wrap64 (by omega) (by omega)
          have hK2 : (dfK p (c.take n) j).length < (dfC p c n j).length := by omega
          have hK3 : (dfK p (c.take n) j).length + 1 ≤ (dfC p c n j).length := by omega
          simp [hw, hw2, hKn, hbl, hK2, hK3]
          refine ⟨j + 1, ⟨by omega, by omega⟩, by omega, ?_⟩
          rw [dfK_yes hn hlt hpx, dfC_yes hn hlt hpx, intsA_set]
          simp [Leq, hh, hargs, leqH_take, hbl]
          done
      · have : j = n := by omega
        subst this
        rw [dfK_all]
        have hkl : (keptL p c j).length < j := by
          rw [← dfK_all]
          have h1 := List.length_filter_lt_length_iff_exists (p := fun x => !p x) (l := c.take j) |>.2 ⟨_, List.getElem_mem hkn, by rw [hpk]; simp⟩
          unfold dfK
          rw [List.take_take, Nat.min_self]
          omega
        have hC : intsA (dfC p c j j) = intsA (keptL p c j) ++ (intsA ((c.drop (keptL p c j).length).take (j - (keptL p c j).length)) ++ intsA (c.drop j)) := by
          rw [← intsA_append, ← intsA_append]
          unfold dfC
          rw [dfK_all]
          have e9 : (c.drop (keptL p c j).length).drop (j - (keptL p c j).length) = c.drop j := by rw [List.drop_drop]; congr 1; omega
          have e8 := List.take_append_drop (j - (keptL p c j).length) (c.drop (keptL p c j).length)
          rw [e9] at e8
          rw [e8]
        have hlay : lay (intsA (dfC p c j j)) (keptL p c j).length (List.replicate (j - (keptL p c j).length) (.v (.int .i64 0))) = intsA (delfL p c j) := by
          rw [hC]
          have := lay_mid (A := intsA (keptL p c j)) (B := intsA ((c.drop (keptL p c j).length).take (j - (keptL p c j).length))) (D := intsA (c.drop j)) (l := List.replicate (j - (keptL p c j).length) (.v (.int .i64 0))) (by simp; omega)
          rw [intsA_length] at this
          rw [this]
          unfold delfL
          rw [intsA_append, intsA_append]
          congr 2
          unfold intsA; simp
        have n2 : ¬ ((keptL p c j).length : Int) = (j : Int) := by omega
        have n3 : (keptL p c j).length ≤ j := by omega
        have n4 : (keptL p c j).length + (j - (keptL p c j).length) ≤ c.length := by omega
        simp [n2, n3, hbl, hCl]
        rw [hlay]
        exact ⟨by omega, .inl rfl, ltLL_set hh (by simp)⟩
end
end Go.Proofs.Ytkcampfbpmjacaa.Ax
