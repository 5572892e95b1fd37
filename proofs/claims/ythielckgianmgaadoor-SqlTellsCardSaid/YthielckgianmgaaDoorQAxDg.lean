/- Digits and quotes, over values without memory. -/
import Derived.Test.YthielckgianmgaaDoorQAxX
import Derived.Test.YthielckgianmgaaDoorQAxBa
/- slices.Clone, over values without memory: a copy is a variable of its own. -/
namespace Go.Proofs.YthielckgianmgaaDoor.Ax
open Go.RowKit Go By
set_option linter.unusedSimpArgs false
set_option linter.unusedVariables false
set_option maxRecDepth 10000

/-! ### Contracts out of calls: a new variable -/
section
variable {P : Program} {f : FuncId} {args : List AV} {h : List (List AV)}
end
theorem contract_blankH {P : Program} {f : FuncId} {args : List AV} {h : List (List AV)} (hE : entersB P f = true) {r : AV} (hr : r.idOf = none) (hc : ∀ (G : Ghost) (w : World) (vs : List Value), WorldOk G w → SeesH G h → SeesL G args vs → Calls P f vs.toArray w fun e w' => ∃ v, e = .returned v ∧ Sees G r v ∧ Below w.heap.size w w') : Contract P f args h r h [] := by
  refine ⟨enters_ofB hE, fun G w vs cls hW hS hvs hown hoh => ?_⟩
  refine (hc G w vs hW hS hvs).mono fun e w' he => ?_
  obtain ⟨v, rfl, hv, hb⟩ := he
  have hcell : ∀ (b j : Nat), b < w.heap.size → w'.cell? ⟨b, j, none⟩ = w.cell? ⟨b, j, none⟩ ∧ w'.frozen? ⟨b, j, none⟩ = w.frozen? ⟨b, j, none⟩ := fun b j hlt =>
    ⟨World.cell?_of_block (w := w) (a := ⟨b, j, none⟩) (hb.block b hlt), World.frozen?_of_block (w := w) (a := ⟨b, j, none⟩) (hb.block b hlt)⟩
  have hW' : WorldOk G w' := by
    refine ⟨hW.below.trans (hb.mono hW.size), fun b B hB => ?_, fun i b us h1 h2 => ?_, hW.nodup2, hW.len, hW.objK (keepsO_below hb)⟩
    · obtain ⟨h1, h2, h3, h4, h5⟩ := hW.buf b B hB
      exact ⟨h1, by have := hb.size; omega, h3, fun j hj => by rw [(hcell b j h2).1, (hcell b j h2).2]; exact h4 j hj, fun j x hx => by rw [(hcell b j h2).1]; exact h5 j x hx⟩
    · obtain ⟨h3, h4, h5, h6⟩ := hW.box i b us h1 h2
      exact ⟨h3, by have := hb.size; omega, h5, fun j x hx => by rw [(hcell b _ h4).1, (hcell b _ h4).2]; exact h6 j x hx⟩
  refine ⟨v, G, cls, rfl, Ext.refl G, hW', hS, fun i cs us h1 h2 j c hj => ?_, hv, .none _ hr, fun c hc => (by rw [hr] at hc; cases hc), fun _ _ _ => rfl, fun _ _ hb _ => hb⟩
  obtain ⟨h3, h4⟩ := hoh i cs us h1 h2 j c hj
  exact ⟨h3.imp2 fun b y B hB _ _ hcl => ⟨hcl, .inr (.inr ⟨i, cs, us, j, c, h1, h2, hj, hB⟩)⟩, h4⟩
theorem contract_blank {P : Program} {f : FuncId} {args : List AV} {h : List (List AV)} (hE : entersB P f = true) {r : AV} (hr : r.idOf = none) (hc : ∀ (G : Ghost) (w : World) (vs : List Value), WorldOk G w → SeesL G args vs → Calls P f vs.toArray w fun e w' => ∃ v, e = .returned v ∧ Sees G r v ∧ Below w.heap.size w w') : Contract P f args h r h [] := contract_blankH hE hr fun G w vs hW _ hvs => hc G w vs hW hvs
end Go.Proofs.YthielckgianmgaaDoor.Ax
namespace Go.Proofs.YthielckgianmgaaDoor.Ax
open Go.RowKit Go By Nm Sc Dg
set_option linter.unusedSimpArgs false
set_option maxRecDepth 10000

theorem dtext_c (n : Int) (h1 : -9223372036854775808 ≤ n) (h2 : n ≤ 9223372036854775807) (h : List (List AV)) : Contract Tryd.prog 26 [.v (.int .i64 n)] h (.v (.string (strB (Dg.textL n)))) h [] :=
  contract_blank (by kernel_rfl) rfl fun G w vs _ hs => by
    rw [plain_vals (l := [.int .i64 n]) hs]
    exact (text_any n w h1 h2).mono fun e w' he => ⟨_, he.1, .v _, he.2⟩
theorem drtext_c (n : Int) (h1 : -9223372036854775808 ≤ n) (h2 : n ≤ 9223372036854775807) (h : List (List AV)) : Contract Tryd.prog 41 [.v (.int .i64 n)] h (.v (.string (strB (Dg.textL n)))) h [] :=
  plain_quiet (l := [.int .i64 n]) (by kernel_rfl) h fun w => rtext_any n w h1 h2
theorem dtext_len (n : Int) (h1 : -9223372036854775808 ≤ n) (h2 : n ≤ 9223372036854775807) : (Dg.textL n).length ≤ 21 := by
  unfold Dg.textL
  split
  · have := digsN_le20 n.natAbs (by omega)
    simp; omega
  · have := digsN_le20 n.toNat (by omega)
    omega
end Go.Proofs.YthielckgianmgaaDoor.Ax
