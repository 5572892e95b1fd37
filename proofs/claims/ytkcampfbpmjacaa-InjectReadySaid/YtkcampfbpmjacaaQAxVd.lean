/- Which statements a server will have, over values without memory: ops, one behind the other; copies; what there will be. -/
import Derived.Test.YtkcampfbpmjacaaQAxVc
/- Which statements a server has, over values without memory: Settle; New. -/
namespace Go.Proofs.Ytkcampfbpmjacaa.Ax
open Go.RowKit Go By
set_option linter.unusedSimpArgs false
set_option linter.unusedVariables false
set_option maxRecDepth 10000

theorem delf_e (k : Nat) (nul : Option Bool) (g : FuncId) (first cap : List AV) (h : List (List AV)) : Contract Try.prog 92 [.sl k [] nul .no, .fn (.func g) first cap] h (.sl k [] none .no) h [] := by
  have hix : Contract Try.prog 83 [.sl k [] nul .no, .fn (.func g) first cap] h (.v (.int .i64 (-1))) h [] := by
    refine contract_of k83 mixed (by simp [c83]) fun hh hargs => ?_
    simp [c83]
    refine xloop_ok (D := Unit) (fun _ => ⟨[(7, .v (.int .i64 0)), (8, .v (.int .i64 0))], [], h, []⟩) (fun _ => True) (fun _ => 0) () trivial ?_ ?_
    · simp [Leq, hh, leqH_take]
      done
    · intro _ _
      simp [hh]
  refine contract_of k92 mixed (by simp [c92]) fun hh hargs => ?_
  simp [c92]
  refine xcall_self (by simp) hix ?_
  simp [hh]
  done
section
variable {lo : Nat} {h : List (List AV)} {i a most : Nat} {o : Option Nat} {c L : List Int}
def goneL (L L' : List Int) : List Int := L.filter fun x => !L'.contains x
theorem goneL_kept (L L' : List Int) : keptL (fun x => L'.contains x) L L.length = goneL L L' := by unfold keptL goneL; rw [List.take_length]
/-! ### New -/
def newCa (h : List (List AV)) (most : Nat) : List (List AV) := newLr h most ++ [[.box h.length 0, .v (.int .i64 (most : Int))]]
theorem newCa_at (hh : ltLL h.length h) (most : Nat) (hlo : lo ≤ h.length) : CaAt lo (newCa h most) (h.length + 1) h.length most none [] [] := by
  have t := newLr_at hh most hlo
  have hl : (newLr h most).length = h.length + 1 := by simp [newLr]
  refine ⟨by unfold newCa; rw [← hl]; simp, t.app [[.box h.length 0, .v (.int .i64 (most : Int))]] (by simp [hl]; omega), ⟨by omega, fun b e => (by cases e)⟩, by omega⟩
end
end Go.Proofs.Ytkcampfbpmjacaa.Ax
namespace Go.Proofs.Ytkcampfbpmjacaa.Ax
open Go.RowKit Go By
set_option linter.unusedSimpArgs false
set_option linter.unusedVariables false
set_option maxRecDepth 10000

structure FS where
  H : List (List AV)
  o : Option Nat
  c : List Int
structure FS.Ok (lo : Nat) (h : List (List AV)) (o : Option Nat) (L : List Int) (s : FS) : Prop where
  at_ : FoAt lo s.H s.o s.c L
  stay : ∀ q, q < h.length → o ≠ some q → s.H[q]? = h[q]?
  len : h.length ≤ s.H.length
  new : ∀ b, s.o = some b → o = some b ∨ h.length ≤ b
section
variable {lo : Nat} {h : List (List AV)} {o : Option Nat} {c L : List Int}
theorem foldAll_c (ht : FoAt lo h o c L) (hlo : lo ≤ h.length) (ops : List Oc) (hbig : L.length + ops.length ≤ 900000) : FDoes 51 [foV o L.length, .sl 2 (enc ocC ops) none .no] lo h o (foldL L ops) := by
  obtain ⟨F, f0, fI, fR⟩ := chain_of (fun j s => FS.Ok lo h o (foldL L (ops.take j)) s) (fun j s s' => ∀ hj : j < ops.length, Contract Try.prog 73 [foV s.o (foldL L (ops.take j)).length, .agg (ocC ops[j])] (s.H ++ [ocC ops[j]]) (foV s'.o (foldL L (ops.take (j + 1))).length) s'.H s.o.toList) ⟨h, o, c⟩ ⟨by simpa [foldL] using ht, fun _ _ _ => rfl, Nat.le_refl _, fun b e => .inl e⟩ ops.length fun j hj s hs => by
    have hlen := hs.len
    have hb := foldL_len (ops.take j) L
    rw [List.length_take] at hb
    obtain ⟨h', o', c', k1, t1, s1, l1, q1⟩ := fone_c (hs.at_.app [ocC ops[j]] (by simp [ocC])) (by simp; omega) (by omega) ops[j]
    have hl : s.H.length + 1 ≤ h'.length := by simpa using l1
    rw [← foldL_next hj] at k1 t1
    refine ⟨⟨h', o', c'⟩, ⟨t1, fun q hq h3 => ?_, by show h.length ≤ h'.length; omega, fun b e => ?_⟩, fun _ => k1⟩
    · show h'[q]? = h[q]?
      rw [s1 q (by simp; omega) (fun e => by rcases hs.new q e with e | e; exact h3 e; omega), List.getElem?_append_left (by omega)]
      exact hs.stay q hq h3
    · rcases q1 b e with e | e
      · exact hs.new b e
      · simp at e; right; omega
  have fn := fI ops.length (Nat.le_refl _)
  rw [List.take_length] at fn
  have f00 : (F 0).H = h := by rw [f0]
  have f01 : (F 0).o = o := by rw [f0]
  refine ⟨(F ops.length).H, (F ops.length).o, (F ops.length).c, ?_, fn.at_, fn.stay, fn.len, fn.new⟩
  refine contract_of k51 mixed (by simp [c51]) fun hh hargs => ?_
  have hle := fn.len
  have hltn := fn.at_.lt
  have hfn := foV_lt fn.at_ (foldL L ops).length
  have hf0 := foV_lt ht L.length
  simp [c51]
  refine xloop_ok (D := Nat) (fun j => ⟨[(0, foV (F j).o (foldL L (ops.take j)).length), (7, .sl 2 (enc ocC ops) none .no), (8, .v (.int .i64 (ops.length : Int))), (9, .v (.int .i64 (j : Int)))], [], (F j).H, o.toList⟩) (fun j => j ≤ ops.length) (fun j => ops.length - j) 0 (by omega) ?_ ?_
  · rw [f00, f01]
    simp [Leq, hh, leqH_take, foldL, hf0]
    done
  · intro j hj
    have fj := fI j hj
    have hltj := fj.at_.lt
    have hlj := fj.len
    have hfj := foV_lt fj.at_ (foldL L (ops.take j)).length
    by_cases hlt : j < ops.length
    · have kj := fR j hlt hlt
      have fj1 := fI (j + 1) (by omega)
      have hltj1 := fj1.at_.lt
      have hl1 := fj1.len
      have hfj1 := foV_lt fj1.at_ (foldL L (ops.take (j + 1))).length
      have hw : IntKind.i64.wrap ((j : Int) + 1) = (j : Int) + 1 := wrap64 (by omega) (by omega)
      simp only [ocC] at kj
      simp [hlt, ocC]
      refine xcall_self (by simp) kj ?_
      simp [hw]
      refine ⟨j + 1, by omega, by omega, ?_⟩
      have hnw : ∀ q, (F j).o = some q → q < h.length → o = some q := fun q e hq => by
        rcases fj.new q e with e | e
        · exact e
        · omega
      simp [Leq, hltj1, leqH_take, hfj1]
      refine ⟨by omega, fun q hq hl => ?_⟩
      rcases hq with e | e | e
      · exact hnw q e hl
      · omega
      · exact e
    · have : j = ops.length := by omega
      subst this
      rw [List.take_length]
      simp [hltn, hle, hfn, leqH_take]
      exact fun q e _ => e
/-! ### Copies -/
theorem clone_zb (b : Nat) : Contract Try.prog 40 [.bsl b 0 1 0] h (.sl 0 [] none .exact) h [] := by
  refine contract_of k40 mixed (by simp [c40]) fun hh hargs => ?_
  simp [c40]
  refine .inr (.inr ⟨rfl, .inr ⟨rfl, rfl, rfl, rfl, ?_⟩⟩)
  simp [hh]
  done
theorem clone_zf (k : Nat) : Contract Try.prog 40 [.sl k [] (some false) .no] h (.sl 0 [] none .exact) h [] := by
  refine contract_of k40 mixed (by simp [c40]) fun hh hargs => ?_
  simp [c40]
  refine .inr (.inr ⟨rfl, .inr ⟨rfl, rfl, rfl, rfl, ?_⟩⟩)
  simp [hh]
  done
theorem clone_zn (k : Nat) (room : Room) (hr : (AV.sl k [] (some true) room).idOf = none) : Contract Try.prog 40 [.sl k [] (some true) room] h (.sl 0 [] none .exact) h [] := by
  refine contract_of k40 mixed (by simp [c40]) fun hh hargs => ?_
  cases room with
  | own c => simp [AV.idOf] at hr
  | no =>
    simp [c40, hh]
    done
  | exact =>
    simp [c40, hh]
    done
theorem clone_ze : Contract Try.prog 40 [.sl 1 [] none .no] h (.sl 0 [] none .exact) h [] :=
  contract_nul (pre := []) (post := []) (fun _ => clone_zn 1 .no rfl) (clone_zf 1)
/-- A copy of what is handed in, as a variable of its own. -/
theorem clone_p {l : List Int} (hne : l ≠ []) (hbig : l.length ≤ 1000000) : Contract Try.prog 40 [.sl 1 (enc intC l) none .no] h (.bsl h.length 0 1 l.length) (h ++ [intsA l]) [] := by
  have hpos : 0 < l.length := List.length_pos_iff.2 hne
  refine contract_newboxH (by kernel_rfl) (intsA_plain _) fun G w vs hW hS hvs => ?_
  obtain ⟨v0, rfl, h0⟩ := seesL1 hvs
  cases h0 with
  | sl _ _ _ _ a len cap u hlen hn hk hcap hm hr hc hs ho =>
    have hel : (enc intC l).length = l.length := by simp
    have hl2 : len = l.length := by rw [hlen, hel]
    subst hl2
    obtain ⟨b, q, rfl, hcell⟩ := hc (by rw [hel]; exact hpos)
    have hcw : ∀ j, j < l.length → w.cell? ⟨b, q + j, none⟩ = some (.int .i64 (l.getD j 0)) := fun j hj => by
      have h1 := hW.cell (hcell j 0 (by rw [hel]; exact hj) (by omega))
      rw [Nat.mul_one, Nat.add_zero] at h1
      have h2 := (hs j (intC l[j]) (by unfold enc; rw [List.getElem?_map, List.getElem?_eq_getElem hj]; rfl) 0 (.v (.int .i64 l[j])) rfl).inv_v
      rw [h1, h2, getD_at hj]
    refine (Try.slices_Clone_int b q l.length cap l w (Nat.le_refl _) (by omega) hcw).mono fun e w' he => ?_
    obtain ⟨v', rfl, ⟨_, h1⟩, _, h3⟩ := he
    rcases h1 with ⟨_, h1⟩ | ⟨g, cap', cur, rfl, hg, hrow, hcap', hmax', hcs, htake⟩
    · omega
    have hgw : g < w'.heap.size := by
      rcases Nat.lt_or_ge g w'.heap.size with h1 | h1
      · exact h1
      · rw [Array.getElem?_eq_none h1] at hrow; cases hrow
    have hcl : ∀ j, w'.cell? ⟨g, j, none⟩ = cur[j]? := fun j => cell_of_row _ _ j cur _ (0, 0) hrow
    have hfz : ∀ j, w'.frozen? ⟨g, j, none⟩ = false := fun j => by simp [World.frozen?, hrow]
    have htake' : cur.toList.take l.length = ints64 l := by rw [Nat.mul_one, List.take_length] at htake; exact htake
    refine ⟨g, cap', ints64 l, rfl, hg, hgw, hcap', ⟨hmax', fun j hj => ⟨?_, hfz j⟩⟩, by simp, ints64_one _, (ints64_sees _ _).2, fun j x hj => ⟨?_, hfz j⟩, h3⟩
    · rw [hcl, Array.getElem?_eq_getElem (by omega)]; rfl
    · rw [hcl]
      rw [← htake', List.getElem?_take] at hj
      split at hj
      · rw [← Array.getElem?_toList]; exact hj
      · cases hj
/-- What a call leaves that makes a list of its own. -/
def SDoes (f : FuncId) (args : List AV) (h : List (List AV)) (L' : List Int) : Prop :=
  ∃ h' o' c', Contract Try.prog f args h (foV o' L'.length) h' [] ∧ FoAt h.length h' o' c' L' ∧ (∀ q, q < h.length → h'[q]? = h[q]?) ∧ h.length ≤ h'.length
theorem cfold_c (hh0 : ltLL h.length h) (l : List Int) (ops : List Oc) (hbig : l.length + ops.length ≤ 900000) : SDoes 21 [.sl 1 (enc intC l) none .no, .sl 2 (enc ocC ops) none .no] h (foldL l ops) := by
  by_cases hl : l = []
  · subst hl
    have t0 : FoAt h.length h none [] [] := ⟨fun _ => rfl, fun b e => by (cases e), hh0⟩
    obtain ⟨h', o', c', k1, t1, s1, l1, q1⟩ := foldAll_c t0 (Nat.le_refl _) ops hbig
    refine ⟨h', o', c', ?_, t1, fun q hq => s1 q hq (by simp), l1⟩
    have hlt1 := t1.lt
    have hfo := foV_lt t1 (foldL [] ops).length
    refine contract_of k21 mixed (by simp [c21]) fun hh hargs => ?_
    have k2 : Contract Try.prog 51 [.sl 0 [] none .exact, .sl 2 (enc ocC ops) none .no] h (foV o' (foldL [] ops).length) h' [] := k1
    simp [c21]
    refine xcall_self (by simp) clone_ze ?_
    simp
    refine xcall_self (by simp) k2 ?_
    simp [hlt1, l1, hfo, leqH_take]
    done
  · have t0 : FoAt h.length (h ++ [intsA l]) (some h.length) l l := ⟨fun e => by (cases e), fun b e => by
      injection e with e; subst e
      exact ⟨by simp, hl, Nat.le_refl _, List.take_length, Nat.le_refl _⟩, by
      rw [List.length_append]; exact ltLL_append.2 ⟨ltLL_mono (Nat.le_add_right _ _) hh0, by simp⟩⟩
    obtain ⟨h', o', c', k1, t1, s1, l1, q1⟩ := foldAll_c t0 (by simp) ops hbig
    have l2 : h.length + 1 ≤ h'.length := by simpa using l1
    refine ⟨h', o', c', ?_, t1, fun q hq => ?_, by omega⟩
    · have hlt1 := t1.lt
      have hfo := foV_lt t1 (foldL l ops).length
      refine contract_of k21 mixed (by simp [c21]) fun hh hargs => ?_
      have k2 : Contract Try.prog 51 [.bsl h.length 0 1 l.length, .sl 2 (enc ocC ops) none .no] (h ++ [intsA l]) (foV o' (foldL l ops).length) h' [h.length] := k1
      simp [c21]
      refine xcall_self (by simp) (clone_p hl (by omega)) ?_
      simp
      refine xcall_self (by simp) k2 ?_
      have l3 : h.length ≤ h'.length := by omega
      simp [hlt1, l3, leqH_take, hfo]
      done
    · rw [s1 q (by simp; omega) (fun e => by injection e with e; omega), List.getElem?_append_left hq]
end
section
variable {lo : Nat} {h : List (List AV)} {i a most : Nat} {o : Option Nat} {c : List Int}
end
def specL (L : List Int) (l : List En) : List Int := l.foldl (fun L e => foldL L e.cache) L
theorem specL_next {L : List Int} {l : List En} {j : Nat} (hj : j < l.length) : specL L (l.take (j + 1)) = foldL (specL L (l.take j)) l[j].cache := by
  unfold specL; rw [take_next hj, List.foldl_append]; rfl
theorem specL_len : ∀ (l : List En) (L : List Int), (∀ e ∈ l, e.cache.length ≤ 10) → (specL L l).length ≤ L.length + 10 * l.length
  | [], L, _ => by simp [specL]
  | e :: r, L, h => by
    have h1 := specL_len r (foldL L e.cache) fun x hx => h x (List.mem_cons_of_mem _ hx)
    have h2 := foldL_len e.cache L
    have h3 := h e (List.mem_cons_self ..)
    show (specL (foldL L e.cache) r).length ≤ _
    rw [List.length_cons]; omega
structure SS.Ok (h : List (List AV)) (L : List Int) (s : FS) : Prop where
  at_ : FoAt h.length s.H s.o s.c L
  stay : ∀ q, q < h.length → s.H[q]? = h[q]?
  len : h.length ≤ s.H.length
section
variable {lo : Nat} {h : List (List AV)} {i a most : Nat} {o : Option Nat} {c L : List Int}
theorem spec_chain (h0 : List (List AV)) {o0 : Option Nat} {c0 : List Int} (ht : FoAt h.length h0 o0 c0 L) (hst : ∀ q, q < h.length → h0[q]? = h[q]?) (hle : h.length ≤ h0.length) (l : List En) (hl : l.length ≤ 1000) (hfew : ∀ e ∈ l, e.cache.length ≤ 10) (hL : L.length ≤ 100000) :
    ∃ F : Nat → FS, F 0 = ⟨h0, o0, c0⟩ ∧ (∀ j ≤ l.length, SS.Ok h (specL L (l.take j)) (F j)) ∧ ∀ j < l.length, ∀ hj : j < l.length, ∃ wr, (∀ q ∈ wr, h.length ≤ q) ∧ Contract Try.prog 51 [foV (F j).o (specL L (l.take j)).length, .sl 2 (enc ocC l[j].cache) none .no] ((F j).H ++ [enC l[j]]) (foV (F (j + 1)).o (specL L (l.take (j + 1))).length) (F (j + 1)).H wr := by
  refine chain_of (fun j s => SS.Ok h (specL L (l.take j)) s) (fun j s s' => ∀ hj : j < l.length, ∃ wr, (∀ q ∈ wr, h.length ≤ q) ∧ Contract Try.prog 51 [foV s.o (specL L (l.take j)).length, .sl 2 (enc ocC l[j].cache) none .no] (s.H ++ [enC l[j]]) (foV s'.o (specL L (l.take (j + 1))).length) s'.H wr) ⟨h0, o0, c0⟩ ⟨by simpa [specL] using ht, hst, hle⟩ l.length fun j hj s hs => ?_
  have hlen := hs.len
  have hf := fun e he => hfew e (List.mem_of_mem_take (i := j) he)
  have hb := specL_len (l.take j) L hf
  rw [List.length_take] at hb
  have hc := hfew l[j] (List.getElem_mem hj)
  obtain ⟨h', o', c', k1, t1, s1, l1, q1⟩ := foldAll_c (hs.at_.app [enC l[j]] (by simp)) (by simp; omega) l[j].cache (by omega)
  have l2 : s.H.length + 1 ≤ h'.length := by simpa using l1
  have hbo : ∀ b, s.o = some b → h.length ≤ b := fun b e => (hs.at_.row b e).2.2.2.2
  rw [← specL_next hj] at k1 t1
  refine ⟨⟨h', o', c'⟩, ⟨t1, fun q hq => ?_, by show h.length ≤ h'.length; omega⟩, fun _ => ⟨_, fun q hq => ?_, k1⟩⟩
  · show h'[q]? = h[q]?
    rw [s1 q (by simp; omega) (fun e => by have := hbo q e; omega), List.getElem?_append_left (by omega)]
    exact hs.stay q hq
  · cases hso : s.o with
    | none => rw [hso] at hq; simp at hq
    | some b => rw [hso] at hq; simp at hq; subst hq; exact hbo q hso
end
end Go.Proofs.Ytkcampfbpmjacaa.Ax
