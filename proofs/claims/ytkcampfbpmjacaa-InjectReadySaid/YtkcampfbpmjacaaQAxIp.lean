/- Lists of numbers in variables, over values without memory; contracts out of calls that turn cells in place. No program is named here. -/
import Derived.Test.YtkcampfbpmjacaaQAxIb
import Derived.Test.YtkcampfbpmjacaaQAxDg
namespace Go.Proofs.Ytkcampfbpmjacaa.Ax
open Go.RowKit Go By
set_option linter.unusedSimpArgs false
set_option linter.unusedVariables false
set_option maxRecDepth 10000

def ints64 (l : List Int) : List Value := l.map (Value.int .i64)
def intsA (l : List Int) : List AV := l.map fun n => .v (.int .i64 n)
@[simp] theorem intsA_length (l : List Int) : (intsA l).length = l.length := by unfold intsA; simp
@[simp] theorem intsA_nil : intsA [] = [] := rfl
theorem intsA_append (l r : List Int) : intsA (l ++ r) = intsA l ++ intsA r := by unfold intsA; simp
theorem intsA_take (l : List Int) (n : Nat) : (intsA l).take n = intsA (l.take n) := by unfold intsA; simp [List.map_take]
theorem intsA_get {l : List Int} {j : Nat} (hj : j < l.length) : (intsA l)[j]? = some (.v (.int .i64 l[j])) := by unfold intsA; rw [List.getElem?_map, List.getElem?_eq_getElem hj]; rfl
theorem intsA_mem {l : List Int} {c : AV} (h : c ∈ intsA l) : ∃ n, c = .v (.int .i64 n) := by obtain ⟨n, _, rfl⟩ := List.mem_map.1 h; exact ⟨n, rfl⟩
theorem intsA_plain (l : List Int) : ∀ c ∈ intsA l, c.idOf = none := fun c hc => by obtain ⟨n, rfl⟩ := intsA_mem hc; rfl
@[simp] theorem intsA_lt (n : Nat) (l : List Int) : ltL n (intsA l) = True := eq_true (ltL_of fun j c hj => by obtain ⟨n, rfl⟩ := intsA_mem (List.mem_of_getElem? hj); trivial)
theorem enc_flat (l : List Int) : (enc intC l).flatten = intsA l := by
  induction l with
  | nil => rfl
  | cons x l ih =>
    have e : enc intC (x :: l) = intC x :: enc intC l := rfl
    rw [e, List.flatten_cons, ih]; rfl
@[simp] theorem ints64_length (l : List Int) : (ints64 l).length = l.length := by unfold ints64; simp
theorem ints64_get {l : List Int} {j : Nat} (hj : j < l.length) : (ints64 l)[j]? = some (.int .i64 l[j]) := by unfold ints64; rw [List.getElem?_map, List.getElem?_eq_getElem hj]; rfl
theorem ints64_one (l : List Int) : ∀ x ∈ ints64 l, x.oneCell' = true := fun x hx => by unfold ints64 at hx; obtain ⟨n, _, rfl⟩ := List.mem_map.1 hx; rfl
theorem ints64_sees (G : Ghost) (l : List Int) : SeesL G (intsA l) (ints64 l) := ⟨by simp, fun j c hj => by
  have hjl : j < l.length := by simpa using (List.getElem?_eq_some_iff.1 hj).1
  rw [intsA_get hjl] at hj
  injection hj with hj
  subst hj
  rw [List.getD_eq_getElem?_getD, ints64_get hjl]
  exact .v _⟩
theorem seesL1 {G : Ghost} {a : AV} {vs : List Value} (h : SeesL G [a] vs) : ∃ x, vs = [x] ∧ Sees G a x := by
  obtain ⟨h1, h2⟩ := h
  match vs, h1 with
  | [x], _ => exact ⟨x, rfl, h2 0 a rfl⟩
theorem seesL2 {G : Ghost} {a b : AV} {vs : List Value} (h : SeesL G [a, b] vs) : ∃ x y, vs = [x, y] ∧ Sees G a x ∧ Sees G b y := by
  obtain ⟨h1, h2⟩ := h
  match vs, h1 with
  | [x, y], _ => exact ⟨x, y, rfl, h2 0 a rfl, h2 1 b rfl⟩
theorem seesL3 {G : Ghost} {a b c : AV} {vs : List Value} (h : SeesL G [a, b, c] vs) : ∃ x y z, vs = [x, y, z] ∧ Sees G a x ∧ Sees G b y ∧ Sees G c z := by
  obtain ⟨h1, h2⟩ := h
  match vs, h1 with
  | [x, y, z], _ => exact ⟨x, y, z, rfl, h2 0 a rfl, h2 1 b rfl, h2 2 c rfl⟩
/-- Where a list of numbers lies. -/
structure BAt (G : Ghost) (w : World) (b : Nat) (c : List Int) (blk : Nat) : Prop where
  box : G.boxes[b]? = some blk
  kind : G.kinds blk = none
  val : G.boxv[b]? = some (ints64 c)
  lo : G.w0.heap.size ≤ blk
  lt : blk < w.heap.size
  cell : ∀ j (hj : j < c.length), w.cell? ⟨blk, j, none⟩ = some (.int .i64 c[j]) ∧ w.frozen? ⟨blk, j, none⟩ = false
theorem bAt {G : Ghost} {w : World} {h : List (List AV)} (hW : WorldOk G w) (hS : SeesH G h) {b : Nat} {c : List Int} (hb : h[b]? = some (intsA c)) {off k n : Nat} {v : Value} (hv : Sees G (.bsl b off k n) v) :
    ∃ blk cap, v = .slice (some ⟨blk, off, none⟩) n cap ∧ n ≤ cap ∧ cap ≤ maxLen ∧ off + cap * k ≤ G.room blk ∧ BAt G w b c blk := by
  cases hv with
  | bsl _ _ _ _ blk cap hbk hcap hm =>
    have hl : b < G.boxv.length := by rw [← hS.1]; exact (List.getElem?_eq_some_iff.1 hb).1
    obtain ⟨us, hus⟩ : ∃ us, G.boxv[b]? = some us := ⟨_, List.getElem?_eq_getElem hl⟩
    obtain ⟨q1, q2, q3⟩ := hS.2 b _ us hb hus
    obtain ⟨b1, b2, b3, b4⟩ := hW.box b blk us hbk.1 hus
    have hu : us = ints64 c := by
      apply List.ext_getElem?
      intro j
      by_cases hj : j < c.length
      · have h1 := (q3 j _ (intsA_get hj)).inv_v
        have hjl : j < us.length := by rw [q1]; simpa using hj
        rw [List.getD_eq_getElem?_getD, List.getElem?_eq_getElem hjl] at h1
        rw [List.getElem?_eq_getElem hjl, ints64_get hj]
        exact congrArg some h1
      · rw [List.getElem?_eq_none (by rw [q1]; simpa using hj), List.getElem?_eq_none (by simpa using hj)]
    subst hu
    exact ⟨blk, cap, rfl, hcap, hm.1, hm.2, hbk.1, hbk.2, hus, b1, b2, fun j hj => b4 j _ (ints64_get hj) hbk.2⟩
theorem sl_empty {G : Ghost} {k : Nat} {nul : Option Bool} {room : Room} {v : Value} (h : Sees G (.sl k [] nul room) v) : ∃ a cap, v = .slice a 0 cap ∧ (nul = some true → a = none ∧ cap = 0) := by
  cases h with
  | sl _ _ _ _ a len cap u hlen hn =>
    have h0 : len = 0 := hlen
    subst h0
    exact ⟨a, cap, rfl, fun e => ⟨hn.2.1 e, (hn.1 (hn.2.1 e)).1⟩⟩
section
variable {P : Program} {f : FuncId} {args : List AV} {h : List (List AV)}
theorem contract_quietH (hE : entersB P f = true) {r : AV} (hr : r.idOf = none) (hc : ∀ (G : Ghost) (w : World) (vs : List Value), WorldOk G w → SeesH G h → SeesL G args vs → ∃ v, Sees G r v ∧ Calls P f vs.toArray w fun e w' => e = .returned v ∧ w' = w) : Contract P f args h r h [] := by
  refine ⟨enters_ofB hE, fun G w vs cls hW hS hvs hown hoh => ?_⟩
  obtain ⟨v, hv, hcl⟩ := hc G w vs hW hS hvs
  refine hcl.mono fun e w' he => ?_
  obtain ⟨rfl, rfl⟩ := he
  refine ⟨v, G, cls, rfl, Ext.refl G, hW, hS, fun i cs us h1 h2 j c hj => ?_, hv, .none _ hr, fun c hc => (by rw [hr] at hc; cases hc), fun _ _ _ => rfl, fun _ _ hb _ => hb⟩
  obtain ⟨h3, h4⟩ := hoh i cs us h1 h2 j c hj
  exact ⟨h3.imp2 fun b y B hB _ _ hcl => ⟨hcl, .inr (.inr ⟨i, cs, us, j, c, h1, h2, hj, hB⟩)⟩, h4⟩
/-- Cells of one variable are turned, and nothing else. -/
theorem contract_inplace (hE : entersB P f = true) {b : Nat} {c d : List Int} {r : AV} (hb : h[b]? = some (intsA c)) (hd : d.length ≤ c.length) (hc0 : c ≠ []) (hr : r.idOf = none)
    (hc : ∀ (G : Ghost) (w : World) (vs : List Value), WorldOk G w → SeesH G h → SeesL G args vs → ∃ blk v, BAt G w b c blk ∧ Sees G r v ∧ Calls P f vs.toArray w fun e w' => e = .returned v ∧ Turned w w' (some ⟨blk, 0, none⟩) (ints64 d)) :
    Contract P f args h r (h.set b (intsA (d ++ c.drop d.length))) [b] := by
  refine ⟨enters_ofB hE, fun G w vs cls hW hS hvs hown hoh => ?_⟩
  obtain ⟨blk, v, hB, hv, hcl⟩ := hc G w vs hW hS hvs
  refine hcl.mono fun e w' he => ?_
  obtain ⟨rfl, T⟩ := he
  obtain ⟨us', hus'⟩ : ∃ us', us' = ints64 (d ++ c.drop d.length) := ⟨_, rfl⟩
  have hul : us'.length = c.length := by rw [hus']; simp; omega
  have hne : ints64 c ≠ [] := fun e => hc0 (by unfold ints64 at e; simpa using e)
  obtain ⟨b1, b2, b3, b4⟩ := hW.box b blk _ hB.box hB.val
  have hcell : ∀ j (x : Value), us'[j]? = some x → w'.cell? ⟨blk, j, none⟩ = some x ∧ w'.frozen? ⟨blk, j, none⟩ = false := fun j x hj => by
    have hjl : j < c.length := by rw [← hul]; exact (List.getElem?_eq_some_iff.1 hj).1
    obtain ⟨h1, h2⟩ := T.here blk 0 rfl j
    refine ⟨?_, by rw [h1]; exact (hB.cell j hjl).2⟩
    rw [h2, Nat.sub_zero, Nat.zero_add]
    rw [hus'] at hj
    unfold ints64 at hj ⊢
    rw [List.map_append] at hj
    by_cases hjd : j < d.length
    · rw [if_pos ⟨by omega, by simpa using hjd⟩]
      rw [List.getElem?_append_left (by simpa using hjd)] at hj
      exact hj
    · rw [if_neg (fun hh => hjd (by simpa using hh.2))]
      rw [List.getElem?_append_right (by simpa using hjd), List.length_map, List.getElem?_map, List.getElem?_drop, show d.length + (j - d.length) = j by omega, List.getElem?_eq_getElem hjl] at hj
      rw [(hB.cell j hjl).1]; exact hj
  have hold : ∀ k, k < w.heap.size → k ≠ blk → w'.heap[k]? = w.heap[k]? := fun k hk hn => T.other k hk fun b' o e => by injection e with e; injection e with e _; omega
  have hoc : ∀ (x j : Nat), x < w.heap.size → x ≠ blk → w'.cell? ⟨x, j, none⟩ = w.cell? ⟨x, j, none⟩ ∧ w'.frozen? ⟨x, j, none⟩ = w.frozen? ⟨x, j, none⟩ := fun x j hx hn =>
    ⟨World.cell?_of_block (w := w) (a := ⟨x, j, none⟩) (hold x hx hn), World.frozen?_of_block (w := w) (a := ⟨x, j, none⟩) (hold x hx hn)⟩
  have hK : Keeps w w' := ⟨T.keeps, fun x j hh => by
    by_cases hx : x = blk
    · subst hx
      obtain ⟨h1, h2⟩ := T.here x 0 rfl j
      refine ⟨?_, by rw [h1]; exact hh.2⟩
      rw [h2]
      split
      · rename_i hj
        rw [List.getElem?_eq_getElem (by omega)]; rfl
      · exact hh.1
    · obtain ⟨h1, h2⟩ := hoc x j (cell_lt hh.1) hx
      rw [h1, h2]; exact hh⟩
  have hE' : Ext G (G.setBox b us') := Ext.setBox b us'
  have hbl : b < G.boxv.length := (List.getElem?_eq_some_iff.1 hB.val).1
  have hlh : b < h.length := (List.getElem?_eq_some_iff.1 hb).1
  have hW' : WorldOk (G.setBox b us') w' := by
    refine ⟨hW.below.trans ⟨T.os, T.tape, T.out, T.keeps.size, fun k hk => hold k (by have := hW.size; omega) (by omega)⟩, fun x B hx => ?_, fun i x us h1 h2 => ?_, ⟨hW.nodup.set hB.val hne _, hW.dom⟩, by simp [Ghost.setBox, hW.len], hW.obj.setBox hK hB.box hB.kind⟩
    · obtain ⟨h1, h2, h3, h4, h5⟩ := hW.buf x B hx
      have hxn : x ≠ blk := fun e => by subst e; rw [show G.bufs x = some B from hx] at b3; cases b3 hne
      exact ⟨h1, by have := T.keeps.size; omega, h3, fun j hj => by rw [(hoc x j h2 hxn).1, (hoc x j h2 hxn).2]; exact h4 j hj, fun j y hy => by rw [(hoc x j h2 hxn).1]; exact h5 j y hy⟩
    · have h1' : G.boxes[i]? = some x := h1
      have h2' : (G.boxv.set b us')[i]? = some us := h2
      rw [List.getElem?_set] at h2'
      by_cases hi : b = i
      · subst hi
        rw [hB.box] at h1'; injection h1' with h1'; subst h1'
        rw [if_pos rfl, if_pos hbl] at h2'
        injection h2' with h2'
        subst h2'
        exact ⟨b1, by have := T.keeps.size; omega, fun _ => b3 hne, fun j y hy _ => hcell j y hy⟩
      · rw [if_neg hi] at h2'
        obtain ⟨h3, h4, h5, h6⟩ := hW.box i x us h1' h2'
        by_cases hn' : us = []
        · subst hn'
          exact ⟨h3, by have := T.keeps.size; omega, h5, fun j y hy => by simp at hy⟩
        have hxn : x ≠ blk := fun e => by
          subst e
          have := hW.nodup.other hB.box h1' hi hB.val hne
          rw [h2'] at this; injection this with this; exact hn' this
        exact ⟨h3, by have := T.keeps.size; omega, h5, fun j y hy hk => by rw [(hoc x j h4 hxn).1, (hoc x j h4 hxn).2]; exact h6 j y hy hk⟩
  have at_ : ∀ (i : Nat) (ds : List AV) (us : List Value), (h.set b (intsA (d ++ c.drop d.length)))[i]? = some ds → (G.boxv.set b us')[i]? = some us → (i = b ∧ ds = intsA (d ++ c.drop d.length) ∧ us = us') ∨ (i ≠ b ∧ h[i]? = some ds ∧ G.boxv[i]? = some us) := fun i ds us e1 e2 => by
    rw [List.getElem?_set] at e1 e2
    by_cases hi : b = i
    · rw [if_pos hi, if_pos hlh] at e1
      rw [if_pos hi, if_pos hbl] at e2
      injection e1 with e1; injection e2 with e2
      exact .inl ⟨hi.symm, e1.symm, e2.symm⟩
    · rw [if_neg hi] at e1 e2
      exact .inr ⟨fun hh => hi hh.symm, e1, e2⟩
  refine ⟨v, G.setBox b us', cls, rfl, hE', hW', ⟨by simp [Ghost.setBox, hS.1], fun i ds us e1 e2 => ?_⟩, fun i ds us e1 e2 j x hj => ?_, hv.ext hE', .none _ hr, fun x hx => (by rw [hr] at hx; cases hx), fun i hi hn => ?_, fun x B hx _ => hx⟩
  · rcases at_ i ds us e1 e2 with ⟨_, hds, hus2⟩ | ⟨_, h3, h4⟩
    · have hq := ints64_sees (G.setBox b us') (d ++ c.drop d.length)
      rw [← hus'] at hq
      rw [hds, hus2]
      exact ⟨hq.1, by rw [hus']; exact ints64_one _, hq.2⟩
    · obtain ⟨h5, h6, h7⟩ := hS.2 i ds us h3 h4
      exact ⟨h5, h6, fun j x hj => (h7 j x hj).ext hE'⟩
  · rcases at_ i ds us e1 e2 with ⟨_, hds, hus2⟩ | ⟨_, h3, h4⟩
    · rw [hds] at hj
      have hn := intsA_plain _ x (List.mem_of_getElem? hj)
      exact ⟨.none _ hn, fun y hy => by rw [hn] at hy; cases hy⟩
    · obtain ⟨h5, h6⟩ := hoh i ds us h3 h4 j x hj
      exact ⟨h5.move fun q y B hB' _ hbB hcl => ⟨hbB, hcl, .inr (.inr ⟨i, ds, us, j, x, h3, h4, hj, hB'⟩)⟩, h6⟩
  · show (G.boxv.set b us')[i]? = _
    rw [List.getElem?_set_ne (fun e => hn (by rw [e]; exact List.mem_cons_self ..))]
/-- It makes a row. -/
theorem contract_madeV (hE : entersB P f = true) {us : List Value} (hone : ∀ u ∈ us, u.oneCell' = true) (hc : ∀ (G : Ghost) (w : World) (vs : List Value), WorldOk G w → SeesH G h → SeesL G args vs → Calls P f vs.toArray w fun e w' => ∃ v E, e = .returned v ∧ w'.ownsRow w.heap.size E 1 v us.length us ∧ Below w.heap.size w w') : Contract P f args h (.sl 1 (us.map fun u => [.v u]) none (.own .res)) h [] := by
  refine ⟨enters_ofB hE, fun G w vs cls hW hS hvs hown hoh => ?_⟩
  refine (hc G w vs hW hS hvs).mono fun e w' he => ?_
  obtain ⟨v, E, rfl, ⟨_, ho⟩, hb⟩ := he
  have hbelow : Below G.w0.heap.size G.w0 w' := hW.below.trans (hb.mono hW.size)
  have hcell : ∀ (b j : Nat), b < w.heap.size → w'.cell? ⟨b, j, none⟩ = w.cell? ⟨b, j, none⟩ ∧ w'.frozen? ⟨b, j, none⟩ = w.frozen? ⟨b, j, none⟩ := fun b j hlt =>
    ⟨World.cell?_of_block (w := w) (a := ⟨b, j, none⟩) (hb.block b hlt), World.frozen?_of_block (w := w) (a := ⟨b, j, none⟩) (hb.block b hlt)⟩
  have own_ : ∀ (G' : Ghost), G'.boxv = G.boxv → (∀ b B, G.bufs b = some B → G'.bufs b = some B) → ∀ cls' : Nat → Id, (∀ b, b < w.heap.size → cls' b = cls b) → OwnH G' (fun b c => cls' b = c ∧ (G.bufs b = none ∨ Touched G args vs h b)) h := fun G' e1 e2 cls' e3 i cs us h1 h2 j c hj => by
    rw [e1] at h2
    obtain ⟨h3, h4⟩ := hoh i cs us h1 h2 j c hj
    refine ⟨h3.move fun b y B hB _ hbB hcl => ⟨e2 b B hbB, ?_, .inr (.inr ⟨i, cs, us, j, c, h1, h2, hj, hB⟩)⟩, h4⟩
    rw [e3 b (hW.buf b B hbB).2.1]; exact hcl
  rcases ho with ⟨rfl, hn⟩ | ⟨g, cap, cur, rfl, hg, hrow, hcap, hmax, hcs, htake⟩
  · have hxs : us = [] := List.eq_nil_of_length_eq_zero hn
    subst hxs
    have hW' : WorldOk G w' := by
      refine ⟨hbelow, fun b B hB => ?_, fun i b us h1 h2 => ?_, hW.nodup2, hW.len, hW.objK (keepsO_below hb)⟩
      · obtain ⟨h1, h2, h3, h4, h5⟩ := hW.buf b B hB
        exact ⟨h1, by have := hb.size; omega, h3, fun j hj => by rw [(hcell b j h2).1, (hcell b j h2).2]; exact h4 j hj, fun j x hx => by rw [(hcell b j h2).1]; exact h5 j x hx⟩
      · obtain ⟨h3, h4, h5, h6⟩ := hW.box i b us h1 h2
        exact ⟨h3, by have := hb.size; omega, h5, fun j x hx => by rw [(hcell b j h4).1, (hcell b j h4).2]; exact h6 j x hx⟩
    refine ⟨_, G, cls, rfl, Ext.refl G, hW', hS, own_ G rfl (fun _ _ h => h) cls (fun _ _ => rfl), ?_, .inl ⟨rfl, fun _ => rfl⟩, fun c hc => (by simp [AV.idOf] at hc; exact hc.symm), fun _ _ _ => rfl, fun _ _ hb _ => hb⟩
    exact .sl 1 [] none _ none 0 0 (fun _ _ => undef) rfl ⟨fun _ => ⟨rfl, rfl⟩, fun h => (by cases h), fun h => (by cases h)⟩ (fun e h => by simp at h) (Nat.le_refl _) (by simp [maxLen]) (fun h => by cases h) (fun h => by simp at h) (fun i e h => by simp at h) (fun i j h => by simp at h)
  · have hgw : g < w'.heap.size := by
      rcases Nat.lt_or_ge g w'.heap.size with h1 | h1
      · exact h1
      · rw [Array.getElem?_eq_none h1] at hrow; cases hrow
    let G' : Ghost := G.setBuf g ⟨us, cap⟩
    have hnew : ∀ j, w'.cell? ⟨g, j, none⟩ = cur[j]? ∧ (j < cur.size → w'.frozen? ⟨g, j, none⟩ = false) := fun j => by
      refine ⟨cell_of_row _ _ j cur E (0, 0) hrow, fun hj => ?_⟩
      simp [World.frozen?, hrow]
    have hbufs : ∀ b B, G.bufs b = some B → G'.bufs b = some B := fun b B hB => by
      have := (hW.buf b B hB).2.1
      show (if b = g then _ else G.bufs b) = _
      rw [if_neg (by omega), hB]
    have hE' : Ext G G' := ⟨rfl, fun b B hB => ⟨[], by rw [hbufs b B hB, List.append_nil]⟩, ⟨[], by rw [List.append_nil]; rfl⟩, fun _ _ h => h, fun _ _ _ => rfl⟩
    have hcur : cur.size = cap := by rw [hcs, Nat.mul_one]
    have hvals : ∀ j x, us[j]? = some x → w'.cell? ⟨g, j, none⟩ = some x := fun j x hx => by
      rw [(hnew j).1]
      rw [← htake, List.getElem?_take] at hx
      split at hx
      · rw [← Array.getElem?_toList]; exact hx
      · cases hx
    have hW' : WorldOk G' w' := by
      refine ⟨hbelow, fun b B hB => ?_, fun i b us h1 h2 => ?_, hW.nodup2, hW.len, hW.objK (keepsO_below hb)⟩
      · have hB' : (if b = g then some (⟨us, cap⟩ : Buf) else G.bufs b) = some B := hB
        split at hB'
        · rename_i e
          subst e
          injection hB' with hB'
          subst hB'
          refine ⟨by have := hW.size; show G.w0.heap.size ≤ _; omega, hgw, hcap, fun j hj => ?_, hvals⟩
          rw [(hnew j).1, (hnew j).2 (by rw [hcur]; exact hj), Array.getElem?_eq_getElem (by rw [hcur]; exact hj)]
          exact ⟨rfl, rfl⟩
        · obtain ⟨h1, h2, h3, h4, h5⟩ := hW.buf b B hB'
          exact ⟨h1, by have := hb.size; omega, h3, fun j hj => by rw [(hcell b j h2).1, (hcell b j h2).2]; exact h4 j hj, fun j x hx => by rw [(hcell b j h2).1]; exact h5 j x hx⟩
      · obtain ⟨h3, h4, h5, h6⟩ := hW.box i b us h1 h2
        refine ⟨h3, by have := hb.size; omega, fun hne => ?_, fun j x hx => by rw [(hcell b j h4).1, (hcell b j h4).2]; exact h6 j x hx⟩
        show (if b = g then _ else G.bufs b) = none
        rw [if_neg (by omega)]; exact h5 hne
    refine ⟨_, G', fun b => if b = g then .res else cls b, rfl, hE', hW', ⟨hS.1, fun i cs us h1 h2 => ?_⟩, own_ G' rfl hbufs _ (fun b hlt => by show (if b = g then _ else _) = _; rw [if_neg (by omega)]), ?_, .inr ⟨g, 0, ⟨us, cap⟩, rfl, ?_, ?_, ?_, ?_, ?_⟩, fun c hc => (by simp [AV.idOf] at hc; exact hc.symm), fun _ _ _ => rfl, fun b B hB _ => hbufs b B hB⟩
    · obtain ⟨h3, h4, h5⟩ := hS.2 i cs us h1 h2
      exact ⟨h3, h4, fun j c hj => (h5 j c hj).ext hE'⟩
    · refine .sl 1 _ none _ (some ⟨g, 0, none⟩) us.length cap (fun i _ => us.getD i undef) (by simp) ⟨fun h => (by cases h), fun h => (by cases h), fun h => (by cases h)⟩ (fun e he => ?_) hcap hmax (fun h => by cases h) (fun _ => ⟨g, 0, rfl, fun i j hi hj => ?_⟩) (fun i e he j c hj => ?_) (fun i j hi _ => ?_)
      · obtain ⟨q, _, rfl⟩ := List.mem_map.1 he; rfl
      · have hi' : i < us.length := by simpa using hi
        have hj0 : j = 0 := by omega
        subst hj0
        unfold Ghost.cell
        rw [if_neg (by have := hW.size; show ¬ g < G.w0.heap.size; omega)]
        show (if g = g then _ else _ : Option Buf).bind _ = _
        rw [if_pos rfl]
        show us[0 + i * 1 + 0]? = _
        rw [show 0 + i * 1 + 0 = i by omega, List.getD_eq_getElem?_getD, List.getElem?_eq_getElem hi']; rfl
      · have hi' : i < us.length := by
          have := (List.getElem?_eq_some_iff.1 he).1; simpa using this
        have e1 : e = [.v us[i]] := by
          rw [List.getElem?_map, List.getElem?_eq_getElem hi'] at he
          injection he with he
          exact he.symm
        subst e1
        cases j with
        | zero =>
          simp at hj; subst hj
          rw [List.getD_eq_getElem?_getD, List.getElem?_eq_getElem hi']
          exact .v _
        | succ j => simp at hj
      · have hi' : i < us.length := by simpa using hi
        show (us.getD i undef).oneCell' = true
        rw [List.getD_eq_getElem?_getD, List.getElem?_eq_getElem hi']
        exact hone _ (List.getElem_mem _)
    · show (if g = g then _ else _) = _
      rw [if_pos rfl]
    · simp
    · simp
    · simp
    · left
      cases hB : G.bufs g with
      | none => rfl
      | some B => have := (hW.buf g B hB).2.1; omega
end
end Go.Proofs.Ytkcampfbpmjacaa.Ax
