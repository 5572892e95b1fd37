/- Numbers as cells; where a seat sorts nothing. No program is named here. -/
import Derived.Test.YtmdapcmdlblnnaaDoorQAxXr
import Derived.Test.YtmdapcmdlblnnaaDoorQAxMs
import Derived.Sort.Walk0
/- slices.Clone, over values without memory: a copy is a variable of its own. -/
namespace Go.Proofs.YtmdapcmdlblnnaaDoor.Ax
open Go.RowKit Go By
set_option linter.unusedSimpArgs false
set_option linter.unusedVariables false
set_option maxRecDepth 10000

/-! ### Contracts out of calls: a new variable -/
section
variable {P : Program} {f : FuncId} {args : List AV} {h : List (List AV)}
end
theorem contract_blankH {P : Program} {f : FuncId} {args : List AV} {h : List (List AV)} (hE : entersB P f = true) {r : AV} (hr : r.idOf = none) (hc : ∀ (G : Ghost) (w : World) (vs : List Value), WorldOk G w → SeesH G h → SeesL G args vs → Calls P f vs.toArray w fun e w' => ∃ v, e = .returned v ∧ Sees G r v ∧ Below w.heap.size w w') : Contract P f args h r h [] := by
  refine ⟨enters_ofB hE, fun G w vs cls hW hS hvs hown hoh => ?_⟩
  refine (hc G w vs hW hS hvs).mono fun e w' he => ?_
  obtain ⟨v, rfl, hv, hb⟩ := he
  have hcell : ∀ (b j : Nat), b < w.heap.size → w'.cell? ⟨b, j, none⟩ = w.cell? ⟨b, j, none⟩ ∧ w'.frozen? ⟨b, j, none⟩ = w.frozen? ⟨b, j, none⟩ := fun b j hlt =>
    ⟨World.cell?_of_block (w := w) (a := ⟨b, j, none⟩) (hb.block b hlt), World.frozen?_of_block (w := w) (a := ⟨b, j, none⟩) (hb.block b hlt)⟩
  have hW' : WorldOk G w' := by
    refine ⟨hW.below.trans (hb.mono hW.size), fun b B hB => ?_, fun i b us h1 h2 => ?_, hW.nodup2, hW.len, hW.objK (keepsO_below hb)⟩
    · obtain ⟨h1, h2, h3, h4, h5⟩ := hW.buf b B hB
      exact ⟨h1, by have := hb.size; omega, h3, fun j hj => by rw [(hcell b j h2).1, (hcell b j h2).2]; exact h4 j hj, fun j x hx => by rw [(hcell b j h2).1]; exact h5 j x hx⟩
    · obtain ⟨h3, h4, h5, h6⟩ := hW.box i b us h1 h2
      exact ⟨h3, by have := hb.size; omega, h5, fun j x hx => by rw [(hcell b _ h4).1, (hcell b _ h4).2]; exact h6 j x hx⟩
  refine ⟨v, G, cls, rfl, Ext.refl G, hW', hS, fun i cs us h1 h2 j c hj => ?_, hv, .none _ hr, fun c hc => (by rw [hr] at hc; cases hc), fun _ _ _ => rfl, fun _ _ hb _ => hb⟩
  obtain ⟨h3, h4⟩ := hoh i cs us h1 h2 j c hj
  exact ⟨h3.imp2 fun b y B hB _ _ hcl => ⟨hcl, .inr (.inr ⟨i, cs, us, j, c, h1, h2, hj, hB⟩)⟩, h4⟩
theorem contract_blank {P : Program} {f : FuncId} {args : List AV} {h : List (List AV)} (hE : entersB P f = true) {r : AV} (hr : r.idOf = none) (hc : ∀ (G : Ghost) (w : World) (vs : List Value), WorldOk G w → SeesL G args vs → Calls P f vs.toArray w fun e w' => ∃ v, e = .returned v ∧ Sees G r v ∧ Below w.heap.size w w') : Contract P f args h r h [] := contract_blankH hE hr fun G w vs hW _ hvs => hc G w vs hW hvs
end Go.Proofs.YtmdapcmdlblnnaaDoor.Ax
/- Lists of numbers in variables, over values without memory; contracts out of calls that turn cells in place. No program is named here. -/
namespace Go.Proofs.YtmdapcmdlblnnaaDoor.Ax
open Go.RowKit Go By
set_option linter.unusedSimpArgs false
set_option linter.unusedVariables false
set_option maxRecDepth 10000

def intsA (l : List Int) : List AV := l.map fun n => .v (.int .i64 n)
@[simp] theorem intsA_nil : intsA [] = [] := rfl
theorem seesL1 {G : Ghost} {a : AV} {vs : List Value} (h : SeesL G [a] vs) : ∃ x, vs = [x] ∧ Sees G a x := by
  obtain ⟨h1, h2⟩ := h
  match vs, h1 with
  | [x], _ => exact ⟨x, rfl, h2 0 a rfl⟩
theorem seesL2 {G : Ghost} {a b : AV} {vs : List Value} (h : SeesL G [a, b] vs) : ∃ x y, vs = [x, y] ∧ Sees G a x ∧ Sees G b y := by
  obtain ⟨h1, h2⟩ := h
  match vs, h1 with
  | [x, y], _ => exact ⟨x, y, rfl, h2 0 a rfl, h2 1 b rfl⟩
section
variable {P : Program} {f : FuncId} {args : List AV} {h : List (List AV)}
theorem contract_quietH (hE : entersB P f = true) {r : AV} (hr : r.idOf = none) (hc : ∀ (G : Ghost) (w : World) (vs : List Value), WorldOk G w → SeesH G h → SeesL G args vs → ∃ v, Sees G r v ∧ Calls P f vs.toArray w fun e w' => e = .returned v ∧ w' = w) : Contract P f args h r h [] := by
  refine ⟨enters_ofB hE, fun G w vs cls hW hS hvs hown hoh => ?_⟩
  obtain ⟨v, hv, hcl⟩ := hc G w vs hW hS hvs
  refine hcl.mono fun e w' he => ?_
  obtain ⟨rfl, rfl⟩ := he
  refine ⟨v, G, cls, rfl, Ext.refl G, hW, hS, fun i cs us h1 h2 j c hj => ?_, hv, .none _ hr, fun c hc => (by rw [hr] at hc; cases hc), fun _ _ _ => rfl, fun _ _ hb _ => hb⟩
  obtain ⟨h3, h4⟩ := hoh i cs us h1 h2 j c hj
  exact ⟨h3.imp2 fun b y B hB _ _ hcl => ⟨hcl, .inr (.inr ⟨i, cs, us, j, c, h1, h2, hj, hB⟩)⟩, h4⟩
end
end Go.Proofs.YtmdapcmdlblnnaaDoor.Ax
namespace Go.Proofs.YtmdapcmdlblnnaaDoor.Ax
open Go.RowKit Go By
set_option linter.unusedSimpArgs false
set_option linter.unusedVariables false


end Go.Proofs.YtmdapcmdlblnnaaDoor.Ax
