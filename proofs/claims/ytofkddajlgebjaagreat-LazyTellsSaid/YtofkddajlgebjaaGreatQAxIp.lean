/- Lists of numbers in variables, over values without memory; contracts out of calls that turn cells in place. No program is named here. -/
import Derived.Test.YtofkddajlgebjaaGreatQAxXr
import Derived.Test.YtofkddajlgebjaaGreatQAxU
/- slices.Clone, over values without memory: a copy is a variable of its own. -/
namespace Go.Proofs.YtofkddajlgebjaaGreat.Ax
open Go.RowKit Go By
set_option linter.unusedSimpArgs false
set_option linter.unusedVariables false
set_option maxRecDepth 10000

/-! ### Contracts out of calls: a new variable -/
section
variable {P : Program} {f : FuncId} {args : List AV} {h : List (List AV)}
/-- What a slice's address is, may be split. -/
theorem contract_nul {pre post : List AV} {k : Nat} {es : List (List AV)} {room : Room} {r : AV} {h' : List (List AV)} {wr : List Nat} (h1 : es = [] → Contract P f (pre ++ .sl k es (some true) room :: post) h r h' wr) (h2 : Contract P f (pre ++ .sl k es (some false) room :: post) h r h' wr) :
    Contract P f (pre ++ .sl k es none room :: post) h r h' wr := by
  refine ⟨h2.1, fun G w vs cls hW hS hvs hown hoh => ?_⟩
  have hx := hvs.2 pre.length (.sl k es none room) (by simp)
  have key : ∀ nul : Option Bool, Sees G (.sl k es nul room) (vs.getD pre.length undef) → Contract P f (pre ++ .sl k es nul room :: post) h r h' wr → Calls P f vs.toArray w fun e w' => ∃ v G' cls', e = .returned v ∧ After G (Touched G (pre ++ .sl k es none room :: post) vs h) r h' wr v G' cls' w' := fun nul hs hc => by
    have get_ : ∀ (i : Nat) (x : AV), (pre ++ .sl k es nul room :: post)[i]? = some x → (i = pre.length ∧ x = .sl k es nul room ∧ (pre ++ .sl k es none room :: post)[i]? = some (.sl k es none room)) ∨ (pre ++ .sl k es none room :: post)[i]? = some x := fun i x hi => by
      by_cases e : i = pre.length
      · subst e
        simp at hi
        exact .inl ⟨rfl, hi.symm, by simp⟩
      · right
        rcases Nat.lt_or_ge i pre.length with h3 | h3
        · rw [List.getElem?_append_left h3] at hi ⊢; exact hi
        · rw [List.getElem?_append_right h3] at hi ⊢
          obtain ⟨d, hd⟩ : ∃ d, i - pre.length = d + 1 := ⟨i - pre.length - 1, by omega⟩
          rw [hd] at hi ⊢
          simpa using hi
    have hT : Touched G (pre ++ .sl k es nul room :: post) vs h = Touched G (pre ++ .sl k es none room :: post) vs h := by
      have one : ∀ n1 n2 : Option Bool, ∀ b, Touched G (pre ++ .sl k es n1 room :: post) vs h b → Touched G (pre ++ .sl k es n2 room :: post) vs h b := fun n1 n2 b ht => by
        rcases ht with ⟨i, x, hi, ho⟩ | ht
        · left
          by_cases e : i = pre.length
          · subst e
            simp at hi
            subst hi
            exact ⟨pre.length, .sl k es n2 room, by simp, by cases room <;> exact ho⟩
          · refine ⟨i, x, ?_, ho⟩
            rcases Nat.lt_or_ge i pre.length with h3 | h3
            · rw [List.getElem?_append_left h3] at hi ⊢; exact hi
            · rw [List.getElem?_append_right h3] at hi ⊢
              obtain ⟨d, hd⟩ : ∃ d, i - pre.length = d + 1 := ⟨i - pre.length - 1, by omega⟩
              rw [hd] at hi ⊢
              simpa using hi
        · exact .inr ht
      funext b
      exact propext ⟨one _ _ b, one _ _ b⟩
    have := hc.2 G w vs cls hW hS ⟨by have := hvs.1; simpa using this, fun i x hi => by
      rcases get_ i x hi with ⟨rfl, rfl, _⟩ | h4
      · exact hs
      · exact hvs.2 i x h4⟩ (fun i x hi => by
      rcases get_ i x hi with ⟨rfl, rfl, h4⟩ | h4
      · obtain ⟨h5, h6⟩ := hown _ _ h4
        refine ⟨?_, fun c hc => h6 c (by cases room <;> exact hc)⟩
        cases room <;> first | exact h5 | (cases hv : vs.getD pre.length undef <;> rw [hv] at h5 <;> exact h5)
      · exact hown i x h4) hoh
    rwa [hT] at this
  cases hv : vs.getD pre.length undef with
  | slice a len cap =>
    rw [hv] at hx
    cases hx with
    | sl _ _ _ _ _ _ _ u hlen hn hk hcap hm hr hc hs ho =>
      cases ha : a with
      | none =>
        subst ha
        have he : es = [] := List.eq_nil_of_length_eq_zero (by have := (hn.1 rfl).2; omega)
        exact key (some true) (by rw [hv]; exact .sl k es (some true) room none len cap u hlen ⟨hn.1, fun _ => rfl, fun h => by cases h⟩ hk hcap hm hr hc hs ho) (h1 he)
      | some ad =>
        subst ha
        exact key (some false) (by rw [hv]; exact .sl k es (some false) room (some ad) len cap u hlen ⟨hn.1, fun h => (by cases h), fun _ h => by cases h⟩ hk hcap hm hr hc hs ho) h2
  | _ => rw [hv] at hx; cases hx
end
end Go.Proofs.YtofkddajlgebjaaGreat.Ax
namespace Go.Proofs.YtofkddajlgebjaaGreat.Ax
open Go.RowKit Go By
set_option linter.unusedSimpArgs false
set_option linter.unusedVariables false
set_option maxRecDepth 10000

def intsA (l : List Int) : List AV := l.map fun n => .v (.int .i64 n)
@[simp] theorem intsA_nil : intsA [] = [] := rfl
theorem seesL1 {G : Ghost} {a : AV} {vs : List Value} (h : SeesL G [a] vs) : ∃ x, vs = [x] ∧ Sees G a x := by
  obtain ⟨h1, h2⟩ := h
  match vs, h1 with
  | [x], _ => exact ⟨x, rfl, h2 0 a rfl⟩
theorem seesL2 {G : Ghost} {a b : AV} {vs : List Value} (h : SeesL G [a, b] vs) : ∃ x y, vs = [x, y] ∧ Sees G a x ∧ Sees G b y := by
  obtain ⟨h1, h2⟩ := h
  match vs, h1 with
  | [x, y], _ => exact ⟨x, y, rfl, h2 0 a rfl, h2 1 b rfl⟩
section
variable {P : Program} {f : FuncId} {args : List AV} {h : List (List AV)}
theorem contract_quietH (hE : entersB P f = true) {r : AV} (hr : r.idOf = none) (hc : ∀ (G : Ghost) (w : World) (vs : List Value), WorldOk G w → SeesH G h → SeesL G args vs → ∃ v, Sees G r v ∧ Calls P f vs.toArray w fun e w' => e = .returned v ∧ w' = w) : Contract P f args h r h [] := by
  refine ⟨enters_ofB hE, fun G w vs cls hW hS hvs hown hoh => ?_⟩
  obtain ⟨v, hv, hcl⟩ := hc G w vs hW hS hvs
  refine hcl.mono fun e w' he => ?_
  obtain ⟨rfl, rfl⟩ := he
  refine ⟨v, G, cls, rfl, Ext.refl G, hW, hS, fun i cs us h1 h2 j c hj => ?_, hv, .none _ hr, fun c hc => (by rw [hr] at hc; cases hc), fun _ _ _ => rfl, fun _ _ hb _ => hb⟩
  obtain ⟨h3, h4⟩ := hoh i cs us h1 h2 j c hj
  exact ⟨h3.imp2 fun b y B hB _ _ hcl => ⟨hcl, .inr (.inr ⟨i, cs, us, j, c, h1, h2, hj, hB⟩)⟩, h4⟩
end
end Go.Proofs.YtofkddajlgebjaaGreat.Ax
