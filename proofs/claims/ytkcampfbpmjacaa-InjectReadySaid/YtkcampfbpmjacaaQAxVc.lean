/- Which statements a server will have, over values without memory: a list as ops make it. -/
import Derived.Test.YtkcampfbpmjacaaQAxDf
/- Layer 17: a list that no call made; whether the one that was used first is the oldest. -/
namespace Go.Proofs.Ytkcampfbpmjacaa.Ax
open Go.RowKit Go By
set_option linter.unusedSimpArgs false
set_option linter.unusedVariables false
set_option maxRecDepth 10000

/-! ### A list that no call made -/
section
variable {h : List (List AV)}
def zeroL : List AV := [.sl 0 [] (some true) .exact, .v (.int .i64 0)]
theorem zl_at {i : Nat} (hi : h[i]? = some zeroL) (hh : ltLL h.length h) : LrAt 0 h i 0 none [] [] := ⟨hi, fun _ => rfl, fun b e => (by cases e), Nat.zero_le _, hh⟩
end
end Go.Proofs.Ytkcampfbpmjacaa.Ax
/- Layer 17's statement: nothing is there twice, and there are never more than may be. -/
namespace Go.Proofs.Ytkcampfbpmjacaa.Ax
open Go.RowKit Go By
set_option linter.unusedSimpArgs false
set_option linter.unusedVariables false
set_option maxRecDepth 10000

structure Ld where
  op : Int
  id : Int
def ldC (d : Ld) : List AV := [.v (.int .i64 d.op), .v (.int .i64 d.id)]
@[simp] theorem ldC_lt (n : Nat) (l : List Ld) : ltLL n (enc ldC l) = True := eq_true (ltLL_of' fun j e he => by obtain ⟨s, _, rfl⟩ := List.mem_map.1 (List.mem_of_getElem? he); simp [ldC])
def OkLd (d : Ld) : Prop := (-9223372036854775808 ≤ d.op ∧ d.op ≤ 9223372036854775807) ∧ (-9223372036854775808 ≤ d.id ∧ d.id ≤ 9223372036854775807)
theorem compact_nodup {zs : List Int} (h : zs.Nodup) : (Lib.compact zs).length = zs.length := by
  unfold Lib.compact Lib.compactUpTo
  rw [List.length_map]
  have : (List.range zs.length).filter (Lib.keeps zs.toArray) = List.range zs.length := List.filter_eq_self.2 fun j hj => by
    rw [List.mem_range] at hj
    unfold Lib.keeps
    rw [decide_eq_true_eq]
    by_cases h0 : j = 0
    · exact .inl h0
    · right
      rw [getElem!_pos zs.toArray j (by simpa using hj), getElem!_pos zs.toArray (j - 1) (by simp; omega)]
      simp only [List.getElem_toArray]
      intro e
      have := (List.getElem_inj h).1 e
      omega
  rw [this, List.length_range]
theorem sortI_nodup {l : List Int} (h : l.Nodup) : (sortI l).Nodup := (List.mergeSort_perm ..).nodup_iff.2 h
theorem sortI_len (l : List Int) : (sortI l).length = l.length := by unfold sortI; rw [List.length_mergeSort]
section
variable {lo : Nat} {h : List (List AV)} {i most : Nat} {o : Option Nat} {c L : List Int}
end
theorem set_last {α : Type} (h : List α) (x y : α) : (h ++ [x]).set h.length y = h ++ [y] := by
  rw [List.set_append_right _ _ (Nat.le_refl _), Nat.sub_self]; rfl
structure LB where
  H : List (List AV)
  o : Option Nat
  c : List Int
  L : List Int
  j : Nat
structure LB.Ok (n most : Nat) (d : LB) : Prop where
  le : d.j ≤ n
  at_ : LrAt 0 d.H 0 most d.o d.c d.L
  ok : LrOk most d.L
def lsL (most : Nat) (L : List Int) (d : Ld) : List Int := if d.op < 2 then addL most L d.id else if d.op = 2 then touchL L d.id else remI L d.id
theorem u8_of {a : Int} (h : (Lit.int .u8 a).wf = true) : ∃ n : Nat, n < 256 ∧ a = (n : Int) := by
  have lo : IntKind.u8.min = 0 := rfl
  have hi : IntKind.u8.max = 255 := rfl
  simp [Lit.wf] at h
  exact ⟨a.toNat, by omega, by omega⟩
end Go.Proofs.Ytkcampfbpmjacaa.Ax
/- Which statements a server has, over values without memory: what a cache is; its list, one op, ops. -/
namespace Go.Proofs.Ytkcampfbpmjacaa.Ax
open Go.RowKit Go By
set_option linter.unusedSimpArgs false
set_option linter.unusedVariables false
set_option maxRecDepth 10000

theorem chain_of {S : Type} (I : Nat → S → Prop) (R : Nat → S → S → Prop) (s0 : S) (h0 : I 0 s0) : ∀ (n : Nat), (∀ j < n, ∀ s, I j s → ∃ s', I (j + 1) s' ∧ R j s s') → ∃ F : Nat → S, F 0 = s0 ∧ (∀ j ≤ n, I j (F j)) ∧ ∀ j < n, R j (F j) (F (j + 1))
  | 0, _ => ⟨fun _ => s0, rfl, fun j hj => by have : j = 0 := by omega
                                              subst this; exact h0, fun j hj => by omega⟩
  | n + 1, step => by
    obtain ⟨F, h1, h2, h3⟩ := chain_of I R s0 h0 n fun j hj => step j (by omega)
    obtain ⟨s', h4, h5⟩ := step n (by omega) (F n) (h2 n (Nat.le_refl _))
    refine ⟨fun j => if j ≤ n then F j else s', by simp [h1], fun j hj => ?_, fun j hj => ?_⟩
    · dsimp only
      split
      · rename_i hl; exact h2 j hl
      · have : j = n + 1 := by omega
        subst this; exact h4
    · dsimp only
      rw [if_pos (by omega)]
      split
      · exact h3 j (by omega)
      · have : j = n := by omega
        subst this; exact h5
structure CaAt (lo : Nat) (h : List (List AV)) (i a most : Nat) (o : Option Nat) (c L : List Int) : Prop where
  top : h[i]? = some [.box a 0, .v (.int .i64 (most : Int))]
  lru : LrAt lo h a most o c L
  apart : i ≠ a ∧ ∀ b, o = some b → b ≠ i
  low2 : lo ≤ i
def opL (most : Nat) (L : List Int) (op : Oc) : List Int := if op.kind = 1 then addL most L op.id else if op.kind = 2 then remI L op.id else if op.kind = 3 then touchL L op.id else L
def opsL (most : Nat) (L : List Int) (ops : List Oc) : List Int := ops.foldl (opL most) L
theorem opsL_next {most : Nat} {L : List Int} {ops : List Oc} {j : Nat} (hj : j < ops.length) : opsL most L (ops.take (j + 1)) = opL most (opsL most L (ops.take j)) ops[j] := by
  unfold opsL; rw [take_next hj, List.foldl_append]; rfl
theorem LrOk.op {most : Nat} {L : List Int} (h : LrOk most L) (op : Oc) : LrOk most (opL most L op) := by
  unfold opL
  split
  · exact h.addL _
  · split
    · exact h.rem _
    · split
      · exact h.touch _
      · exact h
theorem LrOk.ops {most : Nat} : ∀ {ops : List Oc} {L : List Int}, LrOk most L → LrOk most (opsL most L ops)
  | [], _, h => h
  | op :: r, _, h => LrOk.ops (ops := r) (h.op op)
section
variable {lo : Nat} {h : List (List AV)} {i a most : Nat} {o : Option Nat} {c L : List Int}
theorem CaAt.i_lt (ht : CaAt lo h i a most o c L) : i < h.length := (List.getElem?_eq_some_iff.1 ht.top).1
theorem CaAt.to (ht : CaAt lo h i a most o c L) {h' : List (List AV)} {o' : Option Nat} {c' L' : List Int} (ht' : LrAt lo h' a most o' c' L') (hi : h'[i]? = h[i]?) (ho : ∀ b, o' = some b → b ≠ i) : CaAt lo h' i a most o' c' L' := ⟨hi.trans ht.top, ht', ⟨ht.apart.1, ho⟩, ht.low2⟩
theorem CaAt.app2 (ht : CaAt lo h i a most o c L) (xs : List (List AV)) (hx : ltLL (h.length + xs.length) xs) : CaAt lo (h ++ xs) i a most o c L := ht.to (ht.lru.app xs hx) (List.getElem?_append_left ht.i_lt) ht.apart.2
/-- What a call leaves that changes a cache. -/
def CDoes (f : FuncId) (args : List AV) (lo : Nat) (h : List (List AV)) (i a most : Nat) (o : Option Nat) (r : AV) (L' : List Int) : Prop :=
  ∃ h' o' c', Contract Try.prog f args h r h' (a :: o.toList) ∧ CaAt lo h' i a most o' c' L' ∧ (∀ q, q < h.length → q ≠ a → o ≠ some q → h'[q]? = h[q]?) ∧ h.length ≤ h'.length ∧ ∀ b, o' = some b → o = some b ∨ h.length ≤ b
structure CS where
  H : List (List AV)
  o : Option Nat
  c : List Int
structure CS.Ok (lo : Nat) (h : List (List AV)) (i a most : Nat) (o : Option Nat) (L : List Int) (s : CS) : Prop where
  at_ : CaAt lo s.H i a most s.o s.c L
  ok : LrOk most L
  stay : ∀ q, q < h.length → q ≠ a → o ≠ some q → s.H[q]? = h[q]?
  len : h.length ≤ s.H.length
  new : ∀ b, s.o = some b → o = some b ∨ h.length ≤ b
end
end Go.Proofs.Ytkcampfbpmjacaa.Ax
namespace Go.Proofs.Ytkcampfbpmjacaa.Ax
open Go.RowKit Go By
set_option linter.unusedSimpArgs false
set_option linter.unusedVariables false
set_option maxRecDepth 10000

def foV (o : Option Nat) (n : Nat) : AV :=
  match o with
  | none => .sl 0 [] none .exact
  | some b => .bsl b 0 1 n
@[simp] theorem foV_id (o : Option Nat) (n : Nat) : (foV o n).idOf = none := by cases o <;> rfl
@[simp] theorem foV_unown (o : Option Nat) (n : Nat) : (foV o n).unown = foV o n := by cases o <;> rfl
@[simp] theorem foV_cells (o : Option Nat) (n : Nat) : (foV o n).cells = some [foV o n] := by cases o <;> rfl
structure FoAt (lo : Nat) (h : List (List AV)) (o : Option Nat) (c L : List Int) : Prop where
  emp : o = none → L = []
  row : ∀ b, o = some b → h[b]? = some (intsA c) ∧ c ≠ [] ∧ L.length ≤ c.length ∧ c.take L.length = L ∧ lo ≤ b
  lt : ltLL h.length h
theorem foV_lt {lo : Nat} {h : List (List AV)} {o : Option Nat} {c L : List Int} (ht : FoAt lo h o c L) (n : Nat) : (foV o n).lt h.length := by
  cases o with
  | none => exact trivial
  | some b => exact (List.getElem?_eq_some_iff.1 (ht.row b rfl).1).1
def oneL (L : List Int) (op : Oc) : List Int := if op.kind = 1 then (if L.contains op.id = true then L else L ++ [op.id]) else if op.kind = 2 then remI L op.id else if op.kind = 3 then touchL L op.id else L
def foldL (L : List Int) (ops : List Oc) : List Int := ops.foldl oneL L
theorem foldL_next {L : List Int} {ops : List Oc} {j : Nat} (hj : j < ops.length) : foldL L (ops.take (j + 1)) = oneL (foldL L (ops.take j)) ops[j] := by
  unfold foldL; rw [take_next hj, List.foldl_append]; rfl
theorem remI_le (L : List Int) (x : Int) : (remI L x).length ≤ L.length := List.length_filter_le _ _
theorem touchL_le (L : List Int) (x : Int) : (touchL L x).length ≤ L.length + 1 := by
  unfold touchL
  split
  · have := remI_le L x; simp; omega
  · omega
theorem oneL_len (L : List Int) (op : Oc) : (oneL L op).length ≤ L.length + 1 := by
  unfold oneL
  split
  · split
    · omega
    · simp
  · split
    · have := remI_le L op.id; omega
    · split
      · exact touchL_le _ _
      · omega
theorem foldL_len : ∀ (ops : List Oc) (L : List Int), (foldL L ops).length ≤ L.length + ops.length
  | [], L => by simp [foldL]
  | op :: r, L => by
    have h1 := foldL_len r (oneL L op)
    have h2 := oneL_len L op
    show (foldL (oneL L op) r).length ≤ _
    rw [List.length_cons]; omega
theorem idxf_x (nul : Option Bool) (g : FuncId) (first cap : List AV) (h : List (List AV)) : Contract Try.prog 83 [.sl 0 [] nul .exact, .fn (.func g) first cap] h (.v (.int .i64 (-1))) h [] := by
  refine contract_of k83 mixed (by simp [c83]) fun hh hargs => ?_
  simp [c83]
  refine xloop_ok (D := Unit) (fun _ => ⟨[(7, .v (.int .i64 0)), (8, .v (.int .i64 0))], [], h, []⟩) (fun _ => True) (fun _ => 0) () trivial ?_ ?_
  · simp [Leq, hh, leqH_take]
    done
  · intro _ _
    simp [hh]
theorem delf_x (nul : Option Bool) (g : FuncId) (first cap : List AV) (h : List (List AV)) : Contract Try.prog 92 [.sl 0 [] nul .exact, .fn (.func g) first cap] h (.sl 0 [] nul .exact) h [] := by
  refine contract_of k92 mixed (by simp [c92]) fun hh hargs => ?_
  simp [c92]
  refine xcall_self (by simp) (idxf_x _ _ _ _ _) ?_
  simp [hh]
  done
section
variable {env own : List (Nat × AV)} {h : List (List AV)} {wr : List Nat} {d : Option Nat} {K : St → List Nat → Prop}
theorem xap_x {x : Int} (hK : K (St.puts ⟨env, own, h ++ [intsA [x]], wr⟩ d (.bsl h.length 0 1 1) false) []) : xappendA ⟨env, own, h, wr⟩ 1 8 d (.sl 0 [] none .exact) (.sl 1 [[.v (.int .i64 x)]] (some false) .exact) K :=
  .inr (.inl ⟨[[.v (.int .i64 x)]], by simp [rowsOf], by simp, by simp, .inr ⟨rfl, rfl, rfl⟩, by simp, by simp, hK⟩)
end
section
variable {lo : Nat} {h : List (List AV)} {o : Option Nat} {c L : List Int}
theorem FoAt.move (ht : FoAt lo h o c L) {h' : List (List AV)} (hb : ∀ b, o = some b → h'[b]? = h[b]?) (hlt : ltLL h'.length h') : FoAt lo h' o c L :=
  ⟨ht.emp, fun b e => by obtain ⟨h1, h2⟩ := ht.row b e; exact ⟨(hb b e).trans h1, h2⟩, hlt⟩
theorem FoAt.app (ht : FoAt lo h o c L) (xs : List (List AV)) (hx : ltLL (h.length + xs.length) xs) : FoAt lo (h ++ xs) o c L :=
  ht.move (fun b e => List.getElem?_append_left (List.getElem?_eq_some_iff.1 (ht.row b e).1).1) (by rw [ltLL_append, List.length_append]; exact ⟨ltLL_mono (Nat.le_add_right _ _) ht.lt, hx⟩)
theorem fhas_c (ht : FoAt lo h o c L) (x : Int) : Contract Try.prog 19 [foV o L.length, .v (.int .i64 x)] h (.v (.bool (L.contains x))) h [] := by
  cases o with
  | none => rw [ht.emp rfl]; exact has_e _ _ _ x
  | some b =>
    obtain ⟨h1, h2, h3, h4, h5⟩ := ht.row b rfl
    have := has_b h1 h3 x
    rwa [h4] at this
theorem without1_c {q : Nat} {id : Int} (hq : h[q]? = some [.v (.int .i64 id)]) (x : Int) : Contract Try.prog 93 [.v (.int .i64 x), .box q 0] h (.v (.bool (x == id))) h [] := by
  have hql := (List.getElem?_eq_some_iff.1 hq).1
  refine contract_of k93 mixed (by simp [c93]) fun hh hargs => ?_
  simp [c93, hq, hh]
  done
theorem keptL_rem (c : List Int) (n : Nat) (id : Int) : keptL (fun x => x == id) c n = remI (c.take n) id := rfl
theorem without_b {b : Nat} (hb : h[b]? = some (intsA c)) (hn : L.length ≤ c.length) (hL : c.take L.length = L) (hbig : L.length ≤ 1000000) (id : Int) :
    ∃ c', Contract Try.prog 89 [.bsl b 0 1 L.length, .v (.int .i64 id)] h (.bsl b 0 1 (remI L id).length) (h.set b (intsA c')) [b] ∧ c'.length = c.length ∧ c'.take (remI L id).length = remI L id := by
  have hbl := (List.getElem?_eq_some_iff.1 hb).1
  have hk : keptL (fun x => x == id) c L.length = remI L id := by rw [keptL_rem, hL]
  have hb0 : (h ++ [[AV.v (.int .i64 id)]])[b]? = some (intsA c) := by rw [List.getElem?_append_left hbl]; exact hb
  have hdel := delf_b (h := h ++ [[AV.v (.int .i64 id)]]) (b := b) (n := L.length) (c := c) (g := 93) (first := []) (cap := [.box h.length 0]) (p := fun x => x == id) hb0 hn hbig (by simp) (fun c' _ x => without1_c (by rw [List.getElem?_set_ne (by omega)]; simp) x)
  rw [hk] at hdel
  refine ⟨delfL (fun x => x == id) c L.length, ?_, delfL_len hn, ?_⟩
  · refine contract_of k89 mixed (by simp [c89]) fun hh hargs => ?_
    simp [c89]
    refine xcall_self (by simp) hdel ?_
    have e : (h ++ [[AV.v (.int .i64 id)]]).set b (intsA (delfL (fun x => x == id) c L.length)) = h.set b (intsA (delfL (fun x => x == id) c L.length)) ++ [[AV.v (.int .i64 id)]] := List.set_append_left _ _ hbl
    rw [e]
    simp [hh, hbl, leqH_take]
    done
  · have := delfL_take (p := fun x => x == id) (c := c) (n := L.length)
    rwa [hk] at this
theorem without_x (id : Int) : Contract Try.prog 89 [.sl 0 [] none .exact, .v (.int .i64 id)] h (.sl 0 [] none .exact) h [] := by
  refine contract_of k89 mixed (by simp [c89]) fun hh hargs => ?_
  simp [c89]
  refine xcall_self (by simp) (delf_x _ _ _ _ _) ?_
  simp [hh]
  done
/-- What a call leaves that makes another list of one. -/
def FDoes (f : FuncId) (args : List AV) (lo : Nat) (h : List (List AV)) (o : Option Nat) (L' : List Int) : Prop :=
  ∃ h' o' c', Contract Try.prog f args h (foV o' L'.length) h' o.toList ∧ FoAt lo h' o' c' L' ∧ (∀ q, q < h.length → o ≠ some q → h'[q]? = h[q]?) ∧ h.length ≤ h'.length ∧ ∀ b, o' = some b → o = some b ∨ h.length ≤ b
theorem fone_c (ht : FoAt lo h o c L) (hlo : lo ≤ h.length) (hbig : L.length ≤ 900000) (op : Oc) : FDoes 73 [foV o L.length, .agg (ocC op)] lo h o (oneL L op) := by
  have h0 := ht.app [ocC op] (by simp [ocC])
  have hhas := fhas_c h0 op.id
  have hlt := ht.lt
  have hlt1 := h0.lt
  simp at hlt1
  have same : (∀ hh : ltLL h.length h, ltL h.length [foV o L.length, .agg (ocC op)] → xwp Try.prog ⟨h, [foV o L.length, .agg (ocC op)]⟩ c73.code (enter [foV o L.length, .agg (ocC op)] h) (kret c73.res h.length (foV o L.length) h [])) → FDoes 73 [foV o L.length, .agg (ocC op)] lo h o L := fun hx =>
    ⟨h, o, c, (contract_of k73 mixed (by simp [c73]) hx).wrs (fun q hq => by cases hq), ht, fun _ _ _ => rfl, Nat.le_refl _, fun b e => .inl e⟩
  have hfl := foV_lt ht L.length
  by_cases k1 : op.kind = 1
  · by_cases hx : op.id ∈ L
    · have hc : L.contains op.id = true := by simpa using hx
      have hp : oneL L op = L := by unfold oneL; rw [if_pos k1, if_pos hc]
      rw [hp]
      rw [hc] at hhas
      refine same fun hh hargs => ?_
      simp only [ocC] at hhas
      rw [k1] at hhas
      simp [c73, ocC, k1]
      refine xcall_self (by simp) hhas ?_
      simp [hh, hfl]
      done
    · have hc : L.contains op.id = false := by simpa using hx
      have hp : oneL L op = L ++ [op.id] := by unfold oneL; rw [if_pos k1, if_neg (by rw [hc]; simp)]
      rw [hp]
      rw [hc] at hhas
      simp only [ocC] at hhas hlt1
      rw [k1] at hhas
      cases o with
      | none =>
        have hL := ht.emp rfl
        subst hL
        refine ⟨h ++ [[.v (.int .i64 1), .v (.int .i64 op.id)], intsA [op.id]], some (h.length + 1), [op.id], ?_, ⟨fun e => by (cases e), fun b e => ?_, ?_⟩, fun q hq _ => List.getElem?_append_left hq, by simp, fun b e => by injection e with e; right; omega⟩
        · refine contract_of k73 mixed (by simp [c73]) fun hh hargs => ?_
          simp [foV] at hhas
          simp [c73, ocC, k1, foV]
          refine xcall_self (by simp) hhas ?_
          simp
          refine xap_x ?_
          have hl2 := ltLL_mono (Nat.le_add_right h.length 2) hh
          simp [hl2, leqH_take]
          done
        · injection e with e; subst e
          exact ⟨by rw [List.getElem?_append_right (by omega), show h.length + 1 - h.length = 1 by omega]; rfl, by simp, by simp, by simp, by omega⟩
        · simp
          exact ltLL_mono (by omega) hlt
      | some b =>
        obtain ⟨r1, r2, r3, r4, r5⟩ := ht.row b rfl
        have hbl := (List.getElem?_eq_some_iff.1 r1).1
        have e1 : (h ++ [[AV.v (.int .i64 1), .v (.int .i64 op.id)]])[b]? = some (intsA c) := by rw [List.getElem?_append_left hbl]; exact r1
        have e2 : (h ++ [[AV.v (.int .i64 1), .v (.int .i64 op.id)]]).set b [] = h.set b [] ++ [[AV.v (.int .i64 1), .v (.int .i64 op.id)]] := List.set_append_left _ _ hbl
        refine ⟨h.set b [] ++ [[.v (.int .i64 1), .v (.int .i64 op.id)], intsA (L ++ [op.id])], some (h.length + 1), L ++ [op.id], ?_, ⟨fun e => by (cases e), fun b' e => ?_, ?_⟩, fun q hq hne => ?_, by simp, fun b' e => by injection e with e; right; omega⟩
        · refine contract_of k73 mixed (by simp [c73]) fun hh hargs => ?_
          simp only [foV] at hhas
          simp [c73, ocC, k1, foV]
          refine xcall_self (by simp) hhas ?_
          simp
          refine xap_b e1 r2 r3 (by omega) ?_
          rw [r4, e2]
          have hl2 := ltLL_mono (Nat.le_add_right h.length 2) hh
          simp [hl2, hbl, leqH_take]
          done
        · injection e with e; subst e
          exact ⟨by rw [List.getElem?_append_right (by simp), List.length_set, show h.length + 1 - h.length = 1 by omega]; rfl, by simp, by simp, by simp, by omega⟩
        · simp
          exact ltLL_set (ltLL_mono (by omega) hlt) (by simp)
        · rw [List.getElem?_append_left (by simp; exact hq), List.getElem?_set_ne (fun e => hne (by rw [e]))]
  by_cases k2 : op.kind = 2
  · have hp : oneL L op = remI L op.id := by unfold oneL; rw [if_neg k1, if_pos k2]
    rw [hp]
    simp only [ocC] at hhas hlt1
    rw [k2] at hhas
    cases o with
    | none =>
      have hL := ht.emp rfl
      subst hL
      refine same fun hh hargs => ?_
      simp [foV] at hhas
      simp [c73, ocC, k2, foV]
      refine xcall_self (by simp) hhas ?_
      simp
      refine xcall_self (by simp) (without_x _) ?_
      simp [hh]
      done
    | some b =>
      obtain ⟨r1, r2, r3, r4, r5⟩ := ht.row b rfl
      have hbl := (List.getElem?_eq_some_iff.1 r1).1
      have e1 : (h ++ [[AV.v (.int .i64 2), .v (.int .i64 op.id)]])[b]? = some (intsA c) := by rw [List.getElem?_append_left hbl]; exact r1
      obtain ⟨c', w1, w2, w3⟩ := without_b e1 r3 r4 (by omega) op.id
      have e2 : (h ++ [[AV.v (.int .i64 2), .v (.int .i64 op.id)]]).set b (intsA c') = h.set b (intsA c') ++ [[AV.v (.int .i64 2), .v (.int .i64 op.id)]] := List.set_append_left _ _ hbl
      have hc' : c' ≠ [] := fun e => r2 (List.eq_nil_of_length_eq_zero (by rw [← w2, e]; rfl))
      refine ⟨h.set b (intsA c'), some b, c', ?_, ⟨fun e => by (cases e), fun b' e => ?_, ?_⟩, fun q hq hne => ?_, by simp, fun b' e => .inl e⟩
      · refine contract_of k73 mixed (by simp [c73]) fun hh hargs => ?_
        simp only [foV] at hhas
        simp [c73, ocC, k2, foV]
        refine xcall_self (by simp) hhas ?_
        simp
        refine xcall_self (by simp) w1 ?_
        rw [e2]
        simp [hh, hbl, leqH_take]
        done
      · injection e with e; subst e
        exact ⟨List.getElem?_set_self hbl, hc', by have := remI_le L op.id; omega, w3, r5⟩
      · rw [List.length_set]; exact ltLL_set hlt (by simp)
      · rw [List.getElem?_set_ne (fun e => hne (by rw [e]))]
  by_cases k3 : op.kind = 3
  · by_cases hx : op.id ∈ L
    · have hc : L.contains op.id = true := by simpa using hx
      have hp : oneL L op = remI L op.id ++ [op.id] := by unfold oneL touchL; rw [if_neg k1, if_neg k2, if_pos k3, if_pos hc]
      rw [hp]
      rw [hc] at hhas
      simp only [ocC] at hhas hlt1
      rw [k3] at hhas
      cases o with
      | none => rw [ht.emp rfl] at hx; cases hx
      | some b =>
        obtain ⟨r1, r2, r3, r4, r5⟩ := ht.row b rfl
        have hbl := (List.getElem?_eq_some_iff.1 r1).1
        have e1 : (h ++ [[AV.v (.int .i64 3), .v (.int .i64 op.id)]])[b]? = some (intsA c) := by rw [List.getElem?_append_left hbl]; exact r1
        obtain ⟨c', w1, w2, w3⟩ := without_b e1 r3 r4 (by omega) op.id
        have hc' : c' ≠ [] := fun e => r2 (List.eq_nil_of_length_eq_zero (by rw [← w2, e]; rfl))
        have hrl := remI_le L op.id
        have e2 : (h ++ [[AV.v (.int .i64 3), .v (.int .i64 op.id)]]).set b (intsA c') = h.set b (intsA c') ++ [[AV.v (.int .i64 3), .v (.int .i64 op.id)]] := List.set_append_left _ _ hbl
        rw [e2] at w1
        have e3 : (h.set b (intsA c') ++ [[AV.v (.int .i64 3), .v (.int .i64 op.id)]])[b]? = some (intsA c') := by rw [List.getElem?_append_left (by simp; exact hbl), List.getElem?_set_self hbl]
        have e4 : (h.set b (intsA c') ++ [[AV.v (.int .i64 3), .v (.int .i64 op.id)]]).set b [] = h.set b [] ++ [[AV.v (.int .i64 3), .v (.int .i64 op.id)]] := by rw [List.set_append_left _ _ (by simp; exact hbl), List.set_set]
        refine ⟨h.set b [] ++ [[.v (.int .i64 3), .v (.int .i64 op.id)], intsA (remI L op.id ++ [op.id])], some (h.length + 1), remI L op.id ++ [op.id], ?_, ⟨fun e => by (cases e), fun b' e => ?_, ?_⟩, fun q hq hne => ?_, by simp, fun b' e => by injection e with e; right; omega⟩
        · refine contract_of k73 mixed (by simp [c73]) fun hh hargs => ?_
          have hl2 := ltLL_mono (Nat.le_add_right h.length 2) hh
          simp only [foV] at hhas
          simp [c73, ocC, k3, foV]
          refine xcall_self (by simp) hhas ?_
          simp
          refine ⟨?_, ?_⟩
          · refine xcall_self (by simp) w1 ?_
            simp
            have nb : ¬ h.length = b := by omega
            refine ⟨nb, xap_b (n := (remI L op.id).length) e3 hc' (by omega) (by omega) ?_⟩
            rw [w3, e4]
            simp [hl2, hbl, leqH_take, nb]
            done
          · refine xcall_self (by simp) w1 ?_
            simp
            have nb : ¬ h.length = b := by omega
            refine ⟨nb, xap_b (n := (remI L op.id).length) e3 hc' (by omega) (by omega) ?_⟩
            rw [w3, e4]
            simp [hl2, hbl, leqH_take, nb]
            done
        · injection e with e; subst e
          exact ⟨by rw [List.getElem?_append_right (by simp), List.length_set, show h.length + 1 - h.length = 1 by omega]; rfl, by simp, by simp, by simp, by omega⟩
        · simp
          exact ltLL_set (ltLL_mono (by omega) hlt) (by simp)
        · rw [List.getElem?_append_left (by simp; exact hq), List.getElem?_set_ne (fun e => hne (by rw [e]))]
    · have hc : L.contains op.id = false := by simpa using hx
      have hp : oneL L op = L := by unfold oneL touchL; rw [if_neg k1, if_neg k2, if_pos k3, if_neg (by rw [hc]; simp)]
      rw [hp]
      rw [hc] at hhas
      refine same fun hh hargs => ?_
      simp only [ocC] at hhas
      rw [k3] at hhas
      simp [c73, ocC, k3]
      refine xcall_self (by simp) hhas ?_
      simp [hh, hfl]
      done
  · have hp : oneL L op = L := by unfold oneL; rw [if_neg k1, if_neg k2, if_neg k3]
    rw [hp]
    refine same fun hh hargs => ?_
    simp only [ocC] at hhas
    have b1 : (op.kind == 1) = false := by simpa using k1
    have b2 : (op.kind == 2) = false := by simpa using k2
    have b3 : (op.kind == 3) = false := by simpa using k3
    cases hb : L.contains op.id with
    | true =>
      rw [hb] at hhas
      simp [c73, ocC, k1, k2, k3]
      refine xcall_self (by simp) hhas ?_
      simp [hh, hfl, k1, k2, k3, b1, b2, b3]
      done
    | false =>
      rw [hb] at hhas
      simp [c73, ocC, k1, k2, k3]
      refine xcall_self (by simp) hhas ?_
      simp [hh, hfl, k1, k2, k3, b1, b2, b3]
      done
end
end Go.Proofs.Ytkcampfbpmjacaa.Ax
