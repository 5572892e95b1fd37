/- Numbers that are counted by sync/atomic, over values without memory: one cell of a variable is written. -/
import Derived.Test.YtofkddajlgebjaaGreatQAxXr
import Derived.Test.YtofkddajlgebjaaGreatRows
import Derived.Laws.LoneSync
import Derived.Test.YtofkddajlgebjaaGreatQAxIp
/- The texts of functions over values without memory, as the kernel reckons them out of the program. -/
namespace Go.Proofs.YtofkddajlgebjaaGreat.Ax
open Go.RowKit Go By

end Go.Proofs.YtofkddajlgebjaaGreat.Ax
namespace Go.Proofs.YtofkddajlgebjaaGreat.Ax
set_option maxRecDepth 100000
open Go.RowKit Go By
set_option linter.unusedSimpArgs false
set_option linter.unusedVariables false
set_option maxRecDepth 10000

section
variable {P : Program} {f : FuncId} {args : List AV} {h : List (List AV)}
/-- One cell of one variable is written, and nothing else. -/
theorem contract_set1 (hE : entersB P f = true) {i off : Nat} {cs : List AV} {x : Value} {r : AV} (hcs : h[i]? = some cs) (ho : off < cs.length) (hx : x.oneCell' = true) (hr : r.idOf = none)
    (hc : ∀ (G : Ghost) (w : World) (vs : List Value), WorldOk G w → SeesH G h → SeesL G args vs → ∃ b v, G.boxes[i]? = some b ∧ G.kinds b = none ∧ Sees G r v ∧ Calls P f vs.toArray w fun e w' => e = .returned v ∧ w' = w.setCell ⟨b, G.base i + off, none⟩ x) :
    Contract P f args h r (h.set i (cs.set off (.v x))) [i] := by
  refine ⟨enters_ofB hE, fun G w vs cls hW hS hvs hown hoh => ?_⟩
  obtain ⟨b, v, hb, hk, hv, hcl⟩ := hc G w vs hW hS hvs
  refine hcl.mono fun e w' he => ?_
  obtain ⟨rfl, rfl⟩ := he
  have hlh : i < h.length := (List.getElem?_eq_some_iff.1 hcs).1
  have hbl : i < G.boxv.length := by rw [← hS.1]; exact hlh
  obtain ⟨us, hus⟩ : ∃ us, G.boxv[i]? = some us := ⟨_, List.getElem?_eq_getElem hbl⟩
  obtain ⟨q1, q2, q3⟩ := hS.2 i cs us hcs hus
  have hW' := hW.setBox hb hk hus off [x] (by rw [q1]; simp; omega)
  have hE' : Ext G (G.setBox i (Ax.lay us off [x])) := Ext.setBox i _
  have el : Ax.lay us off [x] = us.set off x := rfl
  rw [el] at hW' hE'
  have at_ : ∀ (j : Nat) (ds : List AV) (ws : List Value), (h.set i (cs.set off (.v x)))[j]? = some ds → (G.boxv.set i (us.set off x))[j]? = some ws → (j = i ∧ ds = cs.set off (.v x) ∧ ws = us.set off x) ∨ (j ≠ i ∧ h[j]? = some ds ∧ G.boxv[j]? = some ws) := fun j ds ws e1 e2 => by
    rw [List.getElem?_set] at e1 e2
    by_cases hi : i = j
    · rw [if_pos hi, if_pos hlh] at e1
      rw [if_pos hi, if_pos hbl] at e2
      injection e1 with e1; injection e2 with e2
      exact .inl ⟨hi.symm, e1.symm, e2.symm⟩
    · rw [if_neg hi] at e1 e2
      exact .inr ⟨fun hh => hi hh.symm, e1, e2⟩
  refine ⟨v, G.setBox i (us.set off x), cls, rfl, hE', hW', ⟨by simp [Ghost.setBox, hS.1], fun j ds ws e1 e2 => ?_⟩, fun j ds ws e1 e2 p y hj => ?_, hv.ext hE', .none _ hr, fun y hy => (by rw [hr] at hy; cases hy), fun j hj hn => ?_, fun y B hy _ => hy⟩
  · rcases at_ j ds ws e1 e2 with ⟨_, rfl, rfl⟩ | ⟨_, h3, h4⟩
    · refine ⟨by simpa using q1, fun y hy => ?_, fun p c hp => ?_⟩
      · rcases List.mem_or_eq_of_mem_set hy with hy | rfl
        · exact q2 y hy
        · exact hx
      · rw [List.getElem?_set] at hp
        by_cases hpo : off = p
        · rw [if_pos hpo, if_pos ho] at hp
          injection hp with hp
          subst hp hpo
          rw [List.getD_eq_getElem?_getD, List.getElem?_set_self (by rw [q1]; exact ho)]
          exact .v _
        · rw [if_neg hpo] at hp
          rw [List.getD_eq_getElem?_getD, List.getElem?_set_ne hpo, ← List.getD_eq_getElem?_getD]
          exact (q3 p c hp).ext hE'
    · obtain ⟨h5, h6, h7⟩ := hS.2 j ds ws h3 h4
      exact ⟨h5, h6, fun p c hp => (h7 p c hp).ext hE'⟩
  · rcases at_ j ds ws e1 e2 with ⟨rfl, rfl, rfl⟩ | ⟨_, h3, h4⟩
    · rw [List.getElem?_set] at hj
      by_cases hpo : off = p
      · rw [if_pos hpo, if_pos ho] at hj
        injection hj with hj
        subst hj
        exact ⟨.none _ rfl, fun y hy => by cases hy⟩
      · rw [if_neg hpo] at hj
        obtain ⟨h5, h6⟩ := hoh j cs us hcs hus p y hj
        refine ⟨?_, h6⟩
        rw [List.getD_eq_getElem?_getD, List.getElem?_set_ne hpo, ← List.getD_eq_getElem?_getD]
        exact h5.move fun q y' B hB' _ hbB hcl => ⟨hbB, hcl, .inr (.inr ⟨j, cs, us, p, y, hcs, hus, hj, hB'⟩)⟩
    · obtain ⟨h5, h6⟩ := hoh j ds ws h3 h4 p y hj
      exact ⟨h5.move fun q y' B hB' _ hbB hcl => ⟨hbB, hcl, .inr (.inr ⟨j, ds, ws, p, y, h3, h4, hj, hB'⟩)⟩, h6⟩
  · show (G.boxv.set i _)[j]? = _
    rw [List.getElem?_set_ne (fun e => hn (by rw [e]; exact List.mem_cons_self ..))]
end

/-! ### Add, Load -/
theorem atomAdd_any (b o : Nat) (n d : Int) (w : World) (hc : w.cell? ⟨b, o, none⟩ = some (.int .i64 n)) (hz : w.frozen? ⟨b, o, none⟩ = false) :
    Calls Tryz.prog 27 #[.pointer (some ⟨b, o, none⟩), .int .i64 d] w fun e w' => e = .returned (.int .i64 (IntKind.i64.wrap (n + d))) ∧ w' = w.setCell ⟨b, o, none⟩ (.int .i64 (IntKind.i64.wrap (n + d))) := by
  have hadd := run_call_add (P := Tryz.prog) Tryz.func39 (by kernel_rfl) (by kernel_rfl) (by kernel_rfl) .i64 (by kernel_rfl) (y := d) (s := IntKind.i64.wrap (n + d)) hc hz (by simp [go_sem])
  go_enter Tryz.func27, Tryz.ntmps27
  go_wp2
  go_ret
  have e : IntKind.i64.wrap (n + d) = RowKit.wrap64 (n + d) := by unfold RowKit.wrap64; exact IntKind.wrap_i64 _
  rw [e]
  exact ⟨rfl, rfl⟩
theorem atomLoad_any (b o : Nat) (n : Int) (w : World) (hc : w.cell? ⟨b, o, none⟩ = some (.int .i64 n)) :
    Calls Tryz.prog 16 #[.pointer (some ⟨b, o, none⟩)] w fun e w' => e = .returned (.int .i64 n) ∧ w' = w := by
  have hl := run_call_load (P := Tryz.prog) Tryz.func24 (by kernel_rfl) (by kernel_rfl) (by kernel_rfl) .i64 (by kernel_rfl) hc
  go_enter Tryz.func16, Tryz.ntmps16
  go_wp2
  go_ret
  exact ⟨rfl, rfl⟩
theorem box_cell {G : Ghost} {w : World} {h : List (List AV)} (hW : WorldOk G w) (hS : SeesH G h) {i b off : Nat} {cs : List AV} {x : Value} (hcs : h[i]? = some cs) (hx : cs[off]? = some (.v x)) (hb : G.boxes[i]? = some b ∧ G.kinds b = none) :
    w.cell? ⟨b, G.base i + off, none⟩ = some x ∧ w.frozen? ⟨b, G.base i + off, none⟩ = false := by
  have hbl : i < G.boxv.length := by rw [← hS.1]; exact (List.getElem?_eq_some_iff.1 hcs).1
  obtain ⟨us, hus⟩ : ∃ us, G.boxv[i]? = some us := ⟨_, List.getElem?_eq_getElem hbl⟩
  obtain ⟨q1, q2, q3⟩ := hS.2 i cs us hcs hus
  obtain ⟨b1, b2, b3, b4⟩ := hW.box i b us hb.1 hus
  have ho : off < us.length := by rw [q1]; exact (List.getElem?_eq_some_iff.1 hx).1
  have e := (q3 off _ hx).inv_v
  rw [List.getD_eq_getElem?_getD, List.getElem?_eq_getElem ho] at e
  have e : us[off] = x := e
  exact b4 off x (by rw [List.getElem?_eq_getElem ho, e]) hb.2
theorem atomAdd_c {h : List (List AV)} {i off : Nat} {cs : List AV} {n d : Int} (hcs : h[i]? = some cs) (hx : cs[off]? = some (.v (.int .i64 n))) :
    Contract Tryz.prog 27 [.box i off, .v (.int .i64 d)] h (.v (.int .i64 (IntKind.i64.wrap (n + d)))) (h.set i (cs.set off (.v (.int .i64 (IntKind.i64.wrap (n + d)))))) [i] :=
  contract_set1 (by kernel_rfl) hcs (List.getElem?_eq_some_iff.1 hx).1 rfl rfl fun G w vs hW hS hvs => by
    obtain ⟨a, c, rfl, ha, hc⟩ := seesL2 hvs
    obtain ⟨b, rfl, hb⟩ := ha.inv_box
    rw [hc.inv_v]
    obtain ⟨h1, h2⟩ := box_cell hW hS hcs hx hb
    exact ⟨b, _, hb.1, hb.2, .v _, atomAdd_any b _ n d w h1 h2⟩
theorem atomLoad_c {h : List (List AV)} {i off : Nat} {cs : List AV} {n : Int} (hcs : h[i]? = some cs) (hx : cs[off]? = some (.v (.int .i64 n))) :
    Contract Tryz.prog 16 [.box i off] h (.v (.int .i64 n)) h [] :=
  contract_quietH (by kernel_rfl) rfl fun G w vs hW hS hvs => by
    obtain ⟨a, rfl, ha⟩ := seesL1 hvs
    obtain ⟨b, rfl, hb⟩ := ha.inv_box
    obtain ⟨h1, h2⟩ := box_cell hW hS hcs hx hb
    exact ⟨_, .v _, atomLoad_any b _ n w h1⟩
end Go.Proofs.YtofkddajlgebjaaGreat.Ax
