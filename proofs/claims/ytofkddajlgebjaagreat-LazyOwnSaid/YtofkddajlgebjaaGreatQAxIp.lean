/- Lists of numbers in variables, over values without memory; contracts out of calls that turn cells in place. No program is named here. -/
import Derived.Test.YtofkddajlgebjaaGreatQAxXr
import Derived.Test.YtofkddajlgebjaaGreatQAxIb
/- slices.Clone, over values without memory: a copy is a variable of its own. -/
namespace Go.Proofs.YtofkddajlgebjaaGreat.Ax
open Go.RowKit Go By
set_option linter.unusedSimpArgs false
set_option linter.unusedVariables false
set_option maxRecDepth 10000

/-! ### Contracts out of calls: a new variable -/
section
variable {P : Program} {f : FuncId} {args : List AV} {h : List (List AV)}
theorem contract_newboxH (hE : entersB P f = true) {k n : Nat} {cs : List AV} (hid : ∀ c ∈ cs, c.idOf = none)
    (hc : ∀ (G : Ghost) (w : World) (vs : List Value), WorldOk G w → SeesH G h → SeesL G args vs → Calls P f vs.toArray w fun e w' => ∃ (g cap : Nat) (us : List Value), e = .returned (.slice (some ⟨g, 0, none⟩) n cap) ∧ w.heap.size ≤ g ∧ g < w'.heap.size ∧ n ≤ cap ∧ (cap ≤ maxLen ∧ ∀ j, j < cap * k → (w'.cell? ⟨g, j, none⟩).isSome = true ∧ w'.frozen? ⟨g, j, none⟩ = false) ∧ us.length = cs.length ∧ (∀ x ∈ us, x.oneCell' = true) ∧
      (∀ (j : Nat) (c : AV), cs[j]? = some c → Sees G c (us.getD j undef)) ∧ (∀ (j : Nat) (x : Value), us[j]? = some x → w'.cell? ⟨g, j, none⟩ = some x ∧ w'.frozen? ⟨g, j, none⟩ = false) ∧ Below w.heap.size w w') :
    Contract P f args h (.bsl h.length 0 k n) (h ++ [cs]) [] := by
  refine ⟨enters_ofB hE, fun G w vs cls hW hS hvs hown hoh => ?_⟩
  refine (hc G w vs hW hS hvs).mono fun e w' he => ?_
  obtain ⟨g, cap, us, rfl, hg, hgw, hncap, hmax, hlen, hone, hsee, hcells, hb⟩ := he
  have hbelow : Below G.w0.heap.size G.w0 w' := hW.below.trans (hb.mono hW.size)
  have hcell : ∀ (b j : Nat), b < w.heap.size → w'.cell? ⟨b, j, none⟩ = w.cell? ⟨b, j, none⟩ ∧ w'.frozen? ⟨b, j, none⟩ = w.frozen? ⟨b, j, none⟩ := fun b j hlt =>
    ⟨World.cell?_of_block (w := w) (a := ⟨b, j, none⟩) (hb.block b hlt), World.frozen?_of_block (w := w) (a := ⟨b, j, none⟩) (hb.block b hlt)⟩
  have hfresh : G.bufs g = none := by
    cases hB : G.bufs g with
    | none => rfl
    | some B => have := (hW.buf g B hB).2.1; omega
  have hE' : Ext G (G.newRoom g us (cap * k)) := Ext.newRoom (fun i hi => by have := (hW.boxlt hi).1; omega) us _
  have hl0 : h.length = G.boxv.length := hS.1
  have hlb : G.boxv.length = G.boxes.length := hW.len
  have at_ : ∀ (i : Nat) (ds : List AV) (vs : List Value), (h ++ [cs])[i]? = some ds → (G.boxv ++ [us])[i]? = some vs → (h[i]? = some ds ∧ G.boxv[i]? = some vs) ∨ (i = h.length ∧ ds = cs ∧ vs = us) := fun i ds vs e1 e2 => by
    by_cases hi : i < h.length
    · rw [List.getElem?_append_left hi] at e1
      rw [List.getElem?_append_left (by omega)] at e2
      exact .inl ⟨e1, e2⟩
    · have hi2 : i = h.length := by
        have := (List.getElem?_eq_some_iff.1 e1).1
        simp at this; omega
      subst hi2
      simp at e1
      rw [hl0] at e2
      simp at e2
      exact .inr ⟨rfl, e1.symm, e2.symm⟩
  have hW' : WorldOk (G.newRoom g us (cap * k)) w' := by
    refine ⟨hbelow, fun b B hB => ?_, fun i b vs2 h1 h2 => ?_, ⟨hW.nodup.snoc hW.len (fun i hi => by have := (hW.boxlt hi).1; omega) us, hW.dom⟩, by simp [Ghost.newRoom, hW.len], hW.obj.newRoom (keepsO_below hb) hW.len hg hmax.2⟩
    · obtain ⟨h1, h2, h3, h4, h5⟩ := hW.buf b B hB
      exact ⟨h1, by have := hb.size; omega, h3, fun j hj => by rw [(hcell b j h2).1, (hcell b j h2).2]; exact h4 j hj, fun j x hx => by rw [(hcell b j h2).1]; exact h5 j x hx⟩
    · have h1' : (G.boxes ++ [g])[i]? = some b := h1
      have h2' : (G.boxv ++ [us])[i]? = some vs2 := h2
      by_cases hi : i < G.boxes.length
      · rw [List.getElem?_append_left hi] at h1'
        rw [List.getElem?_append_left (by omega)] at h2'
        obtain ⟨h3, h4, h5, h6⟩ := hW.box i b vs2 h1' h2'
        refine ⟨h3, by have := hb.size; omega, h5, fun j x hx hkn => ?_⟩
        have hkn' : (if b = g then (none, cap * k) else G.kr b).1 = none := hkn
        rw [if_neg (by omega)] at hkn'
        rw [Ghost.newRoom_old hi, (hcell b _ h4).1, (hcell b _ h4).2]; exact h6 j x hx hkn'
      · have hi2 : i = G.boxes.length := by
          have := (List.getElem?_eq_some_iff.1 h1').1
          simp at this; omega
        subst hi2
        simp at h1'
        rw [← hlb] at h2'
        simp at h2'
        subst h1' h2'
        exact ⟨by have := hW.size; show G.w0.heap.size ≤ _; omega, hgw, fun _ => hfresh, fun j x hx _ => by rw [Ghost.newRoom_new, Nat.zero_add]; exact hcells j x hx⟩
  refine ⟨_, G.newRoom g us (cap * k), cls, rfl, hE', hW', ⟨by simp [Ghost.newRoom, hS.1], fun i ds vs2 h1 h2 => ?_⟩, fun i ds vs2 h1 h2 j c hj => ?_, ?_, trivial, fun c hc => (by simp [AV.idOf] at hc), fun i hi _ => ?_, fun b B hB _ => hB⟩
  · rcases at_ i ds vs2 h1 h2 with ⟨e1, e2⟩ | ⟨rfl, rfl, rfl⟩
    · obtain ⟨h3, h4, h5⟩ := hS.2 i ds vs2 e1 e2
      exact ⟨h3, h4, fun j c hj => (h5 j c hj).ext hE'⟩
    · exact ⟨hlen, hone, fun j c hj => (hsee j c hj).ext hE'⟩
  · rcases at_ i ds vs2 h1 h2 with ⟨e1, e2⟩ | ⟨rfl, rfl, rfl⟩
    · obtain ⟨h3, h4⟩ := hoh i ds vs2 e1 e2 j c hj
      exact ⟨h3.move fun b y B hB _ hbB hcl => ⟨hbB, hcl, .inr (.inr ⟨i, ds, vs2, j, c, e1, e2, hj, hB⟩)⟩, h4⟩
    · have hn := hid c (List.mem_of_getElem? hj)
      exact ⟨.none _ hn, fun x hx => by rw [hn] at hx; cases hx⟩
  · have hbn : (G.newRoom g us (cap * k)).base h.length = 0 := by rw [hl0, hlb]; exact Ghost.newRoom_new
    refine Sees.bsl (G := G.newRoom g us (cap * k)) h.length 0 k n g cap ⟨?_, ?_⟩ hncap ⟨hmax.1, ?_⟩ 0 (.inr (by rw [hbn]))
    · show (G.boxes ++ [g])[h.length]? = some g
      rw [hl0, hlb]; simp
    · show (if g = g then (none, cap * k) else G.kr g : Option Kind × Nat).1 = none
      rw [if_pos rfl]
    · rw [hbn]
      show _ ≤ (if g = g then (none, cap * k) else G.kr g : Option Kind × Nat).2
      rw [if_pos rfl, Nat.zero_add]
      exact Nat.le_refl _
  · show (G.boxv ++ [us])[i]? = _
    rw [List.getElem?_append_left hi]
theorem contract_newbox (hE : entersB P f = true) {k n : Nat} {cs : List AV} (hid : ∀ c ∈ cs, c.idOf = none)
    (hc : ∀ (G : Ghost) (w : World) (vs : List Value), WorldOk G w → SeesL G args vs → Calls P f vs.toArray w fun e w' => ∃ (g cap : Nat) (us : List Value), e = .returned (.slice (some ⟨g, 0, none⟩) n cap) ∧ w.heap.size ≤ g ∧ g < w'.heap.size ∧ n ≤ cap ∧ (cap ≤ maxLen ∧ ∀ j, j < cap * k → (w'.cell? ⟨g, j, none⟩).isSome = true ∧ w'.frozen? ⟨g, j, none⟩ = false) ∧ us.length = cs.length ∧ (∀ x ∈ us, x.oneCell' = true) ∧
      (∀ (j : Nat) (c : AV), cs[j]? = some c → Sees G c (us.getD j undef)) ∧ (∀ (j : Nat) (x : Value), us[j]? = some x → w'.cell? ⟨g, j, none⟩ = some x ∧ w'.frozen? ⟨g, j, none⟩ = false) ∧ Below w.heap.size w w') :
    Contract P f args h (.bsl h.length 0 k n) (h ++ [cs]) [] := contract_newboxH hE hid fun G w vs hW _ hvs => hc G w vs hW hvs
/-- What a slice's address is, may be split. -/
theorem contract_nul {pre post : List AV} {k : Nat} {es : List (List AV)} {room : Room} {r : AV} {h' : List (List AV)} {wr : List Nat} (h1 : es = [] → Contract P f (pre ++ .sl k es (some true) room :: post) h r h' wr) (h2 : Contract P f (pre ++ .sl k es (some false) room :: post) h r h' wr) :
    Contract P f (pre ++ .sl k es none room :: post) h r h' wr := by
  refine ⟨h2.1, fun G w vs cls hW hS hvs hown hoh => ?_⟩
  have hx := hvs.2 pre.length (.sl k es none room) (by simp)
  have key : ∀ nul : Option Bool, Sees G (.sl k es nul room) (vs.getD pre.length undef) → Contract P f (pre ++ .sl k es nul room :: post) h r h' wr → Calls P f vs.toArray w fun e w' => ∃ v G' cls', e = .returned v ∧ After G (Touched G (pre ++ .sl k es none room :: post) vs h) r h' wr v G' cls' w' := fun nul hs hc => by
    have get_ : ∀ (i : Nat) (x : AV), (pre ++ .sl k es nul room :: post)[i]? = some x → (i = pre.length ∧ x = .sl k es nul room ∧ (pre ++ .sl k es none room :: post)[i]? = some (.sl k es none room)) ∨ (pre ++ .sl k es none room :: post)[i]? = some x := fun i x hi => by
      by_cases e : i = pre.length
      · subst e
        simp at hi
        exact .inl ⟨rfl, hi.symm, by simp⟩
      · right
        rcases Nat.lt_or_ge i pre.length with h3 | h3
        · rw [List.getElem?_append_left h3] at hi ⊢; exact hi
        · rw [List.getElem?_append_right h3] at hi ⊢
          obtain ⟨d, hd⟩ : ∃ d, i - pre.length = d + 1 := ⟨i - pre.length - 1, by omega⟩
          rw [hd] at hi ⊢
          simpa using hi
    have hT : Touched G (pre ++ .sl k es nul room :: post) vs h = Touched G (pre ++ .sl k es none room :: post) vs h := by
      have one : ∀ n1 n2 : Option Bool, ∀ b, Touched G (pre ++ .sl k es n1 room :: post) vs h b → Touched G (pre ++ .sl k es n2 room :: post) vs h b := fun n1 n2 b ht => by
        rcases ht with ⟨i, x, hi, ho⟩ | ht
        · left
          by_cases e : i = pre.length
          · subst e
            simp at hi
            subst hi
            exact ⟨pre.length, .sl k es n2 room, by simp, by cases room <;> exact ho⟩
          · refine ⟨i, x, ?_, ho⟩
            rcases Nat.lt_or_ge i pre.length with h3 | h3
            · rw [List.getElem?_append_left h3] at hi ⊢; exact hi
            · rw [List.getElem?_append_right h3] at hi ⊢
              obtain ⟨d, hd⟩ : ∃ d, i - pre.length = d + 1 := ⟨i - pre.length - 1, by omega⟩
              rw [hd] at hi ⊢
              simpa using hi
        · exact .inr ht
      funext b
      exact propext ⟨one _ _ b, one _ _ b⟩
    have := hc.2 G w vs cls hW hS ⟨by have := hvs.1; simpa using this, fun i x hi => by
      rcases get_ i x hi with ⟨rfl, rfl, _⟩ | h4
      · exact hs
      · exact hvs.2 i x h4⟩ (fun i x hi => by
      rcases get_ i x hi with ⟨rfl, rfl, h4⟩ | h4
      · obtain ⟨h5, h6⟩ := hown _ _ h4
        refine ⟨?_, fun c hc => h6 c (by cases room <;> exact hc)⟩
        cases room <;> first | exact h5 | (cases hv : vs.getD pre.length undef <;> rw [hv] at h5 <;> exact h5)
      · exact hown i x h4) hoh
    rwa [hT] at this
  cases hv : vs.getD pre.length undef with
  | slice a len cap =>
    rw [hv] at hx
    cases hx with
    | sl _ _ _ _ _ _ _ u hlen hn hk hcap hm hr hc hs ho =>
      cases ha : a with
      | none =>
        subst ha
        have he : es = [] := List.eq_nil_of_length_eq_zero (by have := (hn.1 rfl).2; omega)
        exact key (some true) (by rw [hv]; exact .sl k es (some true) room none len cap u hlen ⟨hn.1, fun _ => rfl, fun h => by cases h⟩ hk hcap hm hr hc hs ho) (h1 he)
      | some ad =>
        subst ha
        exact key (some false) (by rw [hv]; exact .sl k es (some false) room (some ad) len cap u hlen ⟨hn.1, fun h => (by cases h), fun _ h => by cases h⟩ hk hcap hm hr hc hs ho) h2
  | _ => rw [hv] at hx; cases hx
end
end Go.Proofs.YtofkddajlgebjaaGreat.Ax
namespace Go.Proofs.YtofkddajlgebjaaGreat.Ax
open Go.RowKit Go By
set_option linter.unusedSimpArgs false
set_option linter.unusedVariables false
set_option maxRecDepth 10000

def intsA (l : List Int) : List AV := l.map fun n => .v (.int .i64 n)
@[simp] theorem intsA_nil : intsA [] = [] := rfl
theorem seesL1 {G : Ghost} {a : AV} {vs : List Value} (h : SeesL G [a] vs) : ∃ x, vs = [x] ∧ Sees G a x := by
  obtain ⟨h1, h2⟩ := h
  match vs, h1 with
  | [x], _ => exact ⟨x, rfl, h2 0 a rfl⟩
theorem seesL2 {G : Ghost} {a b : AV} {vs : List Value} (h : SeesL G [a, b] vs) : ∃ x y, vs = [x, y] ∧ Sees G a x ∧ Sees G b y := by
  obtain ⟨h1, h2⟩ := h
  match vs, h1 with
  | [x, y], _ => exact ⟨x, y, rfl, h2 0 a rfl, h2 1 b rfl⟩
section
variable {P : Program} {f : FuncId} {args : List AV} {h : List (List AV)}
theorem contract_quietH (hE : entersB P f = true) {r : AV} (hr : r.idOf = none) (hc : ∀ (G : Ghost) (w : World) (vs : List Value), WorldOk G w → SeesH G h → SeesL G args vs → ∃ v, Sees G r v ∧ Calls P f vs.toArray w fun e w' => e = .returned v ∧ w' = w) : Contract P f args h r h [] := by
  refine ⟨enters_ofB hE, fun G w vs cls hW hS hvs hown hoh => ?_⟩
  obtain ⟨v, hv, hcl⟩ := hc G w vs hW hS hvs
  refine hcl.mono fun e w' he => ?_
  obtain ⟨rfl, rfl⟩ := he
  refine ⟨v, G, cls, rfl, Ext.refl G, hW, hS, fun i cs us h1 h2 j c hj => ?_, hv, .none _ hr, fun c hc => (by rw [hr] at hc; cases hc), fun _ _ _ => rfl, fun _ _ hb _ => hb⟩
  obtain ⟨h3, h4⟩ := hoh i cs us h1 h2 j c hj
  exact ⟨h3.imp2 fun b y B hB _ _ hcl => ⟨hcl, .inr (.inr ⟨i, cs, us, j, c, h1, h2, hj, hB⟩)⟩, h4⟩
end
end Go.Proofs.YtofkddajlgebjaaGreat.Ax
