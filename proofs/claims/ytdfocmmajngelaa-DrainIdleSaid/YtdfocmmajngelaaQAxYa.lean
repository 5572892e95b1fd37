/- Operations in a frame that may be a round of a loop over a function; a call of what such a loop hands over. No program is named here. -/
import Derived.Test.YtdfocmmajngelaaQAxAb
import Derived.Lib.ConvBytes
import Derived.Laws.IdiomStrings
import Derived.RangeFuncSeq
import Derived.OrdersIn
import Derived.TacticsIn
import Derived.Deep.RegionHeld3
/- Appending onto a variable's slice: the answer is a variable of its own, whether the block is the same or another one; nothing is known of the old one. No program is named here. -/
namespace Go.Proofs.Ytdfocmmajngelaa.Ax
open Go.RowKit Go By
set_option linter.unusedVariables false
set_option linter.unusedSimpArgs false

theorem LiveB.again {bs : List Nat} {vs : List (List Value)} (h : LiveB bs vs) (hl : vs.length = bs.length) {b : Nat} (hb : ∀ i : Nat, bs[i]? = some b → vs[i]? = some []) (v : List Value) : LiveB (bs ++ [b]) (vs ++ [v]) := fun i j x hi hj hij => by
  have key : ∀ (i : Nat), (bs ++ [b])[i]? = some x → (i < bs.length ∧ bs[i]? = some x) ∨ (i = bs.length ∧ x = b) := fun i hi => by
    by_cases hl2 : i < bs.length
    · rw [List.getElem?_append_left hl2] at hi; exact .inl ⟨hl2, hi⟩
    · have : i = bs.length := by
        have := (List.getElem?_eq_some_iff.1 hi).1
        simp at this; omega
      subst this
      simp at hi
      exact .inr ⟨rfl, hi.symm⟩
  have low : ∀ i, i < bs.length → (vs ++ [v])[i]? = vs[i]? := fun i hi => List.getElem?_append_left (by omega)
  rcases key i hi with ⟨h1, h2⟩ | ⟨h1, h2⟩ <;> rcases key j hj with ⟨h3, h4⟩ | ⟨h3, h4⟩
  · rw [low i h1, low j h3]
    exact h i j x h2 h4 hij
  · subst h4; left; rw [low i h1]; exact hb i h2
  · subst h2; right; rw [low j h3]; exact hb j h4
  · omega
theorem SeesL.append {G : Ghost} {a b : List AV} {us ws : List Value} (h : SeesL G a us) (k : SeesL G b ws) : SeesL G (a ++ b) (us ++ ws) := by
  refine ⟨by rw [List.length_append, List.length_append, h.1, k.1], fun j c hj => ?_⟩
  by_cases hl : j < a.length
  · rw [List.getElem?_append_left hl] at hj
    have := h.2 j c hj
    rw [List.getD_eq_getElem?_getD] at this ⊢
    rw [List.getElem?_append_left (by rw [h.1]; exact hl)]; exact this
  · rw [List.getElem?_append_right (by omega)] at hj
    have := k.2 _ c hj
    rw [List.getD_eq_getElem?_getD] at this ⊢
    rw [List.getElem?_append_right (by rw [h.1]; omega), h.1]; exact this
section
variable {G : Ghost} {w : World}
theorem WorldOk.blank (h : WorldOk G w) {i b : Nat} (hb : G.boxes[i]? = some b) (hkn : G.kinds b = none) : WorldOk (G.setBox i []) w := by
  refine ⟨h.below, h.buf, fun j x us hj hu => ?_, ⟨h.nodup.kill i, h.dom⟩, by simp [Ghost.setBox, h.len], h.obj.setBox (Keeps.refl w) hb hkn⟩
  have hj' : G.boxes[j]? = some x := hj
  have hu' : (G.boxv.set i [])[j]? = some us := hu
  rw [List.getElem?_set] at hu'
  split at hu'
  · rename_i e
    subst e
    split at hu'
    · injection hu' with hu'
      subst hu'
      have hv : i < G.boxv.length := by rw [h.len]; exact (List.getElem?_eq_some_iff.1 hj').1
      obtain ⟨h1, h2, _, _⟩ := h.box i x _ hj' (List.getElem?_eq_getElem hv)
      exact ⟨h1, h2, fun hne => absurd rfl hne, fun p y hp => by simp at hp⟩
    · cases hu'
  · exact h.box j x us hj' hu'
theorem WorldOk.regrow (h : WorldOk G w) {b : Nat} (hkn : G.kinds b = none) (hbf : G.bufs b = none) (hdead : ∀ i : Nat, G.boxes[i]? = some b → G.boxv[i]? = some []) (hlo : G.w0.heap.size ≤ b) (hlt : b < w.heap.size) {us news : List Value} (q : Nat)
    (hus : ∀ (j : Nat) (x : Value), us[j]? = some x → w.cell? ⟨b, q + j, none⟩ = some x) (hroom : q + us.length + news.length ≤ G.room b) : WorldOk (G.newBoxAt b (us ++ news) q) (w.setCells b (q + us.length) news) := by
  have hz := (setCells_plain news b (q + us.length) w).1
  have hin : ∀ p (hq : p < news.length), (w.setCells b (q + us.length) news).cell? ⟨b, q + us.length + p, none⟩ = some news[p] := fun p hq => World.cell?_setCells_in b news _ w (fun p hp => (h.obj.room b _ (by omega)).1) p hq
  refine ⟨below_setCells h.below b _ news hlo h.below.size, fun x B hB => ?_, fun i x us' hb' hv' => ?_, ⟨h.nodup.again h.len hdead _, h.dom⟩, by simp [Ghost.newBoxAt, h.len], h.obj.newBox (keepsO_setCells news b _ w) h.len hkn⟩
  · obtain ⟨h1, h2, h3, h4, h5⟩ := h.buf x B hB
    have hne : x ≠ b := fun e => by subst e; rw [show G.bufs x = some B from hB] at hbf; cases hbf
    refine ⟨h1, by rw [hz]; exact h2, h3, fun j hj => ?_, fun j y hy => ?_⟩
    · rw [setCells_out w b _ news (.inl hne), World.frozen?_setCells]; exact h4 j hj
    · rw [setCells_out w b _ news (.inl hne)]; exact h5 j y hy
  · have h1' : (G.boxes ++ [b])[i]? = some x := hb'
    have h2' : (G.boxv ++ [us ++ news])[i]? = some us' := hv'
    by_cases hi : i < G.boxes.length
    · rw [List.getElem?_append_left hi] at h1'
      rw [List.getElem?_append_left (by rw [h.len]; exact hi)] at h2'
      obtain ⟨h3, h4, h5, h6⟩ := h.box i x us' h1' h2'
      by_cases hn' : us' = []
      · subst hn'
        exact ⟨h3, by rw [hz]; exact h4, h5, fun j y hy => by simp at hy⟩
      have hne : x ≠ b := fun e => by
        subst e
        have := hdead i h1'
        rw [h2'] at this; injection this with this; exact hn' this
      refine ⟨h3, by rw [hz]; exact h4, h5, fun j y hy => ?_⟩
      rw [Ghost.newBoxAt_old hi, setCells_out w b _ news (.inl hne), World.frozen?_setCells]
      exact h6 j y hy
    · have hi2 : i = G.boxes.length := by
        have := (List.getElem?_eq_some_iff.1 h1').1
        simp at this; omega
      subst hi2
      simp at h1'
      rw [← h.len] at h2'
      simp at h2'
      subst h1' h2'
      refine ⟨hlo, by rw [hz]; exact hlt, fun _ => hbf, fun j y hy _ => ?_⟩
      have hjl := (List.getElem?_eq_some_iff.1 hy).1
      rw [List.length_append] at hjl
      rw [World.frozen?_setCells, Ghost.newBoxAt_new]
      refine ⟨?_, (h.obj.room b (q + j) (by omega)).2⟩
      by_cases hj : j < us.length
      · rw [List.getElem?_append_left hj] at hy
        rw [setCells_out w b _ news (.inr (.inl (by omega)))]
        exact hus j y hy
      · rw [List.getElem?_append_right (by omega)] at hy
        obtain ⟨p, rfl⟩ : ∃ p, j = us.length + p := ⟨j - us.length, by omega⟩
        rw [show us.length + p - us.length = p by omega] at hy
        have hq : p < news.length := by omega
        rw [← Nat.add_assoc, hin p hq, ← hy, List.getElem?_eq_getElem hq]
end
section
variable {P : Program} {C : Ctx} {N : Nat} {s : St} {Q : Exit → Act → World → Prop} {G : Ghost} {cls : Nat → Id} {a : Act} {w : World}
theorem Rel.blank (h : Rel C N G cls s a w) {i b : Nat} (hb : G.boxes[i]? = some b) (hkn : G.kinds b = none) :
    Rel C N (G.setBox i []) cls { s with heap := s.heap.set i [], wr := i :: s.wr } a w ∧ Stays G (G.setBox i []) s { s with heap := s.heap.set i [], wr := i :: s.wr } := by
  have hE := Ext.setBox (G := G) i []
  have at_ : ∀ (i' : Nat) (ds : List AV) (vs : List Value), (s.heap.set i [])[i']? = some ds → (G.boxv.set i [])[i']? = some vs → (ds = [] ∧ vs = []) ∨ (s.heap[i']? = some ds ∧ G.boxv[i']? = some vs) := fun i' ds vs e1 e2 => by
    rw [List.getElem?_set] at e1 e2
    split at e1
    · rename_i e
      rw [if_pos e] at e2
      split at e1
      · injection e1 with e1
        split at e2
        · injection e2 with e2
          exact .inl ⟨e1.symm, e2.symm⟩
        · cases e2
      · cases e1
    · rename_i e
      rw [if_neg e] at e2
      exact .inr ⟨e1, e2⟩
  refine ⟨h.next hE (h.ok.blank hb hkn) (fun b B hB => hB) ⟨by simp [Ghost.setBox, h.heap.1], fun i' ds vs e1 e2 => ?_⟩ (fun i' ds vs e1 e2 j c hj => ?_) (fun i' hi' hn => ?_), ⟨hE, [i], rfl, fun i' hi' hn => ?_⟩⟩
  · rcases at_ i' ds vs e1 e2 with ⟨rfl, rfl⟩ | ⟨h3, h4⟩
    · exact ⟨rfl, fun x hx => by simp at hx, fun j c hj => by simp at hj⟩
    · obtain ⟨h5, h6, h7⟩ := h.heap.2 i' ds vs h3 h4
      exact ⟨h5, h6, fun j c hj => (h7 j c hj).ext hE⟩
  · rcases at_ i' ds vs e1 e2 with ⟨rfl, rfl⟩ | ⟨h3, h4⟩
    · simp at hj
    · obtain ⟨h5, h6⟩ := h.ownh i' ds vs h3 h4 j c hj
      exact ⟨h5.keep fun b B c hB _ => hB, h6⟩
  · have hne : i ≠ i' := fun hh => by subst hh; exact hn (List.mem_cons_self ..)
    show (G.boxv.set i [])[i']? = _
    rw [List.getElem?_set_ne hne]
    exact h.boxes i' hi' fun hh => hn (List.mem_cons_of_mem _ hh)
  · have hne : i ≠ i' := fun hh => by subst hh; exact hn (List.mem_cons_self ..)
    show (G.boxv.set i [])[i']? = _
    rw [List.getElem?_set_ne hne]
/-- One more variable, whatever memory is. -/
theorem Rel.more (h : Rel C N G cls s a w) {G' : Ghost} {w' : World} {vs : List Value} (hE : Ext G G') (hW : WorldOk G' w') (hB : G'.bufs = G.bufs) (hbv : G'.boxv = G.boxv ++ [vs]) {zs : List AV} (hs : SeesL G zs vs) (h1 : ∀ x ∈ vs, x.oneCell' = true) (hi : ∀ c ∈ zs, c.idOf = none) :
    Rel C N G' cls { s with heap := s.heap ++ [zs] } a w' := by
  have at_ : ∀ (i : Nat) (ds : List AV) (us : List Value), (s.heap ++ [zs])[i]? = some ds → G'.boxv[i]? = some us → (s.heap[i]? = some ds ∧ G.boxv[i]? = some us) ∨ (ds = zs ∧ us = vs) := fun i ds us h1 h2 => by
    rw [hbv] at h2
    by_cases hl : i < s.heap.length
    · left
      rw [List.getElem?_append_left hl] at h1
      rw [List.getElem?_append_left (by rw [← h.heap.1]; exact hl)] at h2
      exact ⟨h1, h2⟩
    · right
      have hl2 : i = s.heap.length := by
        have := (List.getElem?_eq_some_iff.1 h1).1
        simp at this; omega
      subst hl2
      simp at h1
      rw [h.heap.1] at h2
      simp at h2
      exact ⟨h1.symm, h2.symm⟩
  refine h.next hE hW (fun b B hb => by rw [hB]; exact hb) ⟨by rw [hbv]; simp [h.heap.1], fun i ds us h8 h9 => ?_⟩ (fun i ds us h8 h9 j c hj => ?_) (fun i hi2 hw => ?_)
  · rcases at_ i ds us h8 h9 with ⟨h3, h4⟩ | ⟨rfl, rfl⟩
    · obtain ⟨h5, h7, h6⟩ := h.heap.2 i ds us h3 h4
      exact ⟨h5, h7, fun j c hj => (h6 j c hj).ext hE⟩
    · exact ⟨hs.1, h1, fun j c hj => (hs.2 j c hj).ext hE⟩
  · rcases at_ i ds us h8 h9 with ⟨h3, h4⟩ | ⟨rfl, rfl⟩
    · obtain ⟨h5, h6⟩ := h.ownh i ds us h3 h4 j c hj
      exact ⟨h5.keep fun b B c hb _ => by rw [hB]; exact hb, h6⟩
    · have := hi c (List.mem_of_getElem? hj)
      exact ⟨.none _ this, fun x hx => by rw [this] at hx; cases hx⟩
  · obtain ⟨m, hm⟩ := h.ext.boxes
    have hlt : i < G.boxv.length := by
      have h1 := h.ok.len
      rw [hm] at h1
      simp at h1
      by_cases hh : i < G.boxv.length
      · exact hh
      · have h2 := h.boxes i hi2 hw
        rw [List.getElem?_eq_none (by omega), List.getElem?_eq_getElem hi2] at h2
        cases h2
    rw [hbv, List.getElem?_append_left hlt]
    exact h.boxes i hi2 hw
/-- What is appended: rows. -/
theorem src_rows (h : Rel C N G cls s a w) {x : Operand} (hgx : Sees G (s.get x) (a.eval x)) {k : Nat} (hk0 : 0 < k) {u e' : TypeId} (hu : P.underlying u = some (.slice e')) {es2 : List (List AV)} (hr : rowsOf s.heap k (s.get x) = some es2) (hne : es2 ≠ []) :
    ∃ news, Src P k u (a.eval x) es2.length news w ∧ (∀ e, e ∈ es2 → e.length = k) ∧ ∀ i e, es2[i]? = some e → ∀ j c, e[j]? = some c → Sees G c (news.getD (i * k + j) undef) := by
  have hpos : 0 < es2.length := List.length_pos_iff.2 hne
  cases hv : a.eval x with
  | slice a0 len cap =>
    rw [hv] at hgx
    cases hgy : s.get x with
    | sl k2 es nul room =>
      rw [hgy] at hgx hr
      have hr2 : (if k2 = k then some es else none) = some es2 := hr
      clear hr
      split at hr2
      · rename_i e
        injection hr2 with hr2
        subst e hr2
        cases hgx with
        | sl _ _ _ _ _ _ _ uu hlen hn hkk hcap hmx hr hc hs ho1 =>
          subst hlen
          obtain ⟨b, p, rfl, hcell⟩ := hc (by omega)
          have hmod : ∀ q, q < es.length * k2 → q / k2 < es.length ∧ q % k2 < k2 := fun q hq => ⟨(Nat.div_lt_iff_lt_mul hk0).2 hq, Nat.mod_lt _ hk0⟩
          refine ⟨(List.range (es.length * k2)).map fun q => uu (q / k2) (q % k2), Src.ofSlice w hu ⟨b, p, none⟩ es.length cap _ (by simp) (fun j v hj => ?_) (fun v hv => ?_), hkk, fun i e he j c hj => ?_⟩
          · have hjl : j < es.length * k2 := by simpa using (List.getElem?_eq_some_iff.1 hj).1
            rw [List.getElem?_map, List.getElem?_range hjl] at hj
            injection hj with hj
            obtain ⟨h3, h4⟩ := hmod j hjl
            have := h.ok.cell (hcell _ _ h3 h4)
            rw [add_plain, ← hj, ← this, Nat.add_assoc, Nat.div_add_mod' j k2]
          · obtain ⟨q, hq, rfl⟩ := List.mem_map.1 hv
            obtain ⟨h3, h4⟩ := hmod q (List.mem_range.1 hq)
            exact ho1 _ _ h3 h4
          · have hil : i < es.length := (List.getElem?_eq_some_iff.1 he).1
            have hjl : j < k2 := by rw [← hkk e (List.mem_of_getElem? he)]; exact (List.getElem?_eq_some_iff.1 hj).1
            have hp : i * k2 + j < es.length * k2 := by
              have : (i + 1) * k2 ≤ es.length * k2 := Nat.mul_le_mul_right k2 hil
              rw [Nat.add_mul, Nat.one_mul] at this; omega
            rw [List.getD_eq_getElem?_getD, List.getElem?_map, List.getElem?_range hp]
            have e1 : (i * k2 + j) / k2 = i := by rw [Nat.mul_comm, Nat.mul_add_div hk0, Nat.div_eq_of_lt hjl, Nat.add_zero]
            have e2 : (i * k2 + j) % k2 = j := by rw [Nat.mul_comm, Nat.mul_add_mod, Nat.mod_eq_of_lt hjl]
            simp only [Option.map_some, Option.getD_some, e1, e2]
            exact hs i e he j c hj
      · cases hr2
    | bsl j off k2 m =>
      rw [hgy] at hgx hr
      have hr : (if k2 = k then (s.heap[j]?).bind fun cs => if off + m * k ≤ cs.length then some (chunk k m ((cs.drop off).take (m * k))) else none else none) = some es2 := hr
      split at hr
      · rename_i e
        subst e
        cases hcs : s.heap[j]? with
        | none => rw [hcs] at hr; cases hr
        | some cs =>
          rw [hcs] at hr
          have hr : (if off + m * k2 ≤ cs.length then some (chunk k2 m ((cs.drop off).take (m * k2))) else none) = some es2 := hr
          split at hr
          · rename_i hfit
            injection hr with hr
            cases hgx with
            | bsl _ _ _ _ b cap hb hcap hm o2 ho2 =>
              have hvl : j < G.boxv.length := by rw [← h.heap.1]; exact (List.getElem?_eq_some_iff.1 hcs).1
              obtain ⟨vs, hvs⟩ : ∃ vs, G.boxv[j]? = some vs := ⟨_, List.getElem?_eq_getElem hvl⟩
              obtain ⟨h1, h2, h3⟩ := h.heap.2 j cs vs hcs hvs
              obtain ⟨_, _, _, b4⟩ := h.ok.box j b vs hb.1 hvs
              have hm2 : es2.length = len := by rw [← hr, chunk_length]
              have hl : ((vs.drop off).take (len * k2)).length = len * k2 := by rw [List.length_take, List.length_drop]; omega
              have hl2 : ((cs.drop off).take (len * k2)).length = len * k2 := by rw [List.length_take, List.length_drop]; omega
              refine ⟨(vs.drop off).take (len * k2), ?_, fun e he => ?_, fun i e he p c hp => ?_⟩
              · rw [hm2]
                refine Src.ofSlice w hu ⟨b, o2, none⟩ len cap _ hl (fun p v hp => ?_) fun v hv => h2 v (List.mem_of_mem_drop (List.mem_of_mem_take hv))
                have hpl : p < len * k2 := by rw [← hl]; exact (List.getElem?_eq_some_iff.1 hp).1
                rw [List.getElem?_take_of_lt hpl, List.getElem?_drop] at hp
                have e2 : o2 = G.base j + off := by
                  have : 0 < len := by rw [← hm2]; exact hpos
                  omega
                rw [add_plain, e2, Nat.add_assoc]
                exact (b4 _ v hp hb.2).1
              · obtain ⟨i, hi⟩ := List.getElem?_of_mem he
                rw [← hr] at hi
                exact (chunk_get k2 len _ i e hl2 hi).1
              · rw [← hr] at he
                have hil : i < len := by have := (List.getElem?_eq_some_iff.1 he).1; rwa [chunk_length] at this
                obtain ⟨h5, h6⟩ := chunk_get k2 len _ i e hl2 he
                have hpk : p < k2 := by rw [← h5]; exact (List.getElem?_eq_some_iff.1 hp).1
                have h7 := h6 p c hp
                have hp2 : i * k2 + p < len * k2 := by
                  have : (i + 1) * k2 ≤ len * k2 := Nat.mul_le_mul_right k2 hil
                  rw [Nat.add_mul, Nat.one_mul] at this; omega
                rw [List.getElem?_take_of_lt hp2, List.getElem?_drop] at h7
                rw [List.getD_eq_getElem?_getD, List.getElem?_take_of_lt hp2, List.getElem?_drop, ← List.getD_eq_getElem?_getD]
                exact h3 _ c h7
          · cases hr
      · cases hr
    | _ => rw [hgy] at hr; cases hr
  | _ =>
    rw [hv] at hgx
    cases hgy : s.get x <;> rw [hgy] at hgx hr <;> first | (cases hr; done) | cases hgx
theorem eff_appendG (o : Oper) (t u e e' : TypeId) (k : Nat) (i : TypeInfo) (z : List Value) (y x : Operand) (ho : o.op = .call { callee := .builtin .append, args := #[y, x], argTypes := #[t, u] }) (he : elemK P t = some (e, k)) (hz : zeroC P e = some z) (hzk : z.length = k) (hi : P.info? e = some i) (hu : P.underlying u = some (.slice e'))
    (i0 off n : Nat) (ca : List AV) (hy : s.get y = .bsl i0 off k n) (hcs : s.heap[i0]? = some ca) (hcne : ca ≠ []) (hcl : off + n * k ≤ ca.length) (hcid0 : ∀ c ∈ ca, c.idOf = none)
    (es2 : List (List AV)) (hr : rowsOf s.heap k (s.get x) = some es2) (hne : es2 ≠ []) (hid : ∀ c ∈ es2.flatten, c.idOf = none) (hfit : (n + es2.length) * i.bytes ≤ 140737488355328) (hfit2 : n + es2.length ≤ 140737488355328) (hf : fitsAll N o = true) :
    OpS P C N s (({ s with heap := s.heap.set i0 [] ++ [(ca.drop off).take (n * k) ++ es2.flatten], wr := i0 :: s.wr } : St).puts o.dst (.bsl s.heap.length 0 k (n + es2.length)) false) o Q := fun G cls a w h => by
  obtain ⟨cs, hcsd⟩ : ∃ cs, cs = (ca.drop off).take (n * k) := ⟨_, rfl⟩
  rw [← hcsd]
  have hcid : ∀ c ∈ cs, c.idOf = none := fun c hc => hcid0 c (List.mem_of_mem_drop (List.mem_of_mem_take (by rw [hcsd] at hc; exact hc)))
  obtain ⟨ht, hk, hk0⟩ := elemK_spec he
  obtain ⟨i', zv, hi', hzv, hzl, hz1⟩ := zeroC_spec hz
  rw [hi] at hi'; injection hi' with hi'; subst hi'
  have hik : i.size = k := by unfold szOf at hk; rw [hi] at hk; injection hk
  have hzs : zv.cells.size = k := by rw [← hzk, ← hzl]; simp
  have hgy := h.get (fits_mem hf (show y ∈ o.op.operands.toList by rw [ho]; simp [Op.operands, Call.operands]))
  have hgx := h.get (fits_mem hf (show x ∈ o.op.operands.toList by rw [ho]; simp [Op.operands, Call.operands]))
  have hpos : 0 < es2.length := List.length_pos_iff.2 hne
  obtain ⟨news, hsrc, hkk, hs2⟩ := src_rows h hgx hk0 hu hr hne
  have hnl : news.length = es2.length * k := hsrc.newsLen
  rw [hy] at hgy
  cases hv : a.eval y with
  | slice a0 len cap =>
    rw [hv] at hgy
    cases hgy with
    | bsl _ _ _ _ b _ hb hcap hm o2 ho2 =>
      have hvl : i0 < G.boxv.length := by rw [← h.heap.1]; exact (List.getElem?_eq_some_iff.1 hcs).1
      have hil : i0 < s.heap.length := (List.getElem?_eq_some_iff.1 hcs).1
      obtain ⟨ua, hus⟩ : ∃ us, G.boxv[i0]? = some us := ⟨_, List.getElem?_eq_getElem hvl⟩
      obtain ⟨q1, q20, q30⟩ := h.heap.2 i0 ca ua hcs hus
      obtain ⟨us, husd⟩ : ∃ us, us = (ua.drop off).take (n * k) := ⟨_, rfl⟩
      have hul : us.length = n * k := by rw [husd, List.length_take, List.length_drop]; omega
      have hune : ua ≠ [] := fun e => by
        rw [e] at q1; exact hcne (List.eq_nil_of_length_eq_zero q1.symm)
      obtain ⟨b1, b2, b3, b4⟩ := h.ok.box i0 b ua hb.1 hus
      have hsub : ∀ (j : Nat) (x : Value), us[j]? = some x → ua[off + j]? = some x := fun j x hj => by
        rw [husd, List.getElem?_take] at hj
        split at hj
        · rw [List.getElem?_drop] at hj; exact hj
        · cases hj
      have husc : ∀ (j : Nat) (x : Value), us[j]? = some x → w.cell? ⟨b, G.base i0 + off + j, none⟩ = some x := fun j x hj => by rw [Nat.add_assoc]; exact (b4 _ x (hsub j x hj) hb.2).1
      have q2 : ∀ x ∈ us, x.oneCell' = true := fun x hx => q20 x (List.mem_of_mem_drop (List.mem_of_mem_take (by rw [husd] at hx; exact hx)))
      have hSLu : SeesL G cs us := ⟨by rw [hul, hcsd, List.length_take, List.length_drop]; omega, fun j c hj => by
        rw [hcsd, List.getElem?_take] at hj
        split at hj
        · rename_i hlt
          rw [List.getElem?_drop] at hj
          have := q30 _ c hj
          rw [List.getD_eq_getElem?_getD] at this ⊢
          rw [husd, List.getElem?_take, if_pos hlt, List.getElem?_drop]; exact this
        · cases hj⟩
      have hSLn : SeesL G es2.flatten news := ⟨by rw [flat_len es2 hkk, hnl], fun j c hj => by
        obtain ⟨p, q, ee, h1, h2, h3⟩ := flat_at es2 j c hkk hj
        rw [h3]
        exact hs2 p ee h1 q c h2⟩
      have hSL := hSLu.append hSLn
      have hone : ∀ x ∈ us ++ news, x.oneCell' = true := fun x hx => by
        rcases List.mem_append.1 hx with hx | hx
        · exact q2 x hx
        · exact hsrc.one x hx
      have hids : ∀ c ∈ cs ++ es2.flatten, c.idOf = none := fun c hc => by
        rcases List.mem_append.1 hc with hc | hc
        · exact hcid c hc
        · exact hid c hc
      obtain ⟨hR1, hS1⟩ := h.blank hb.1 hb.2
      have hE1 : Ext G (G.setBox i0 []) := hS1.ext
      have hlen1 : (s.heap.set i0 []).length = s.heap.length := by simp
      suffices hgoal : ∃ (v : Value) (w' : World), (execOp a.eval o).run P w = .ok (.value v) w' ∧ ∃ G2, Rel C N G2 cls { s with heap := s.heap.set i0 [] ++ [cs ++ es2.flatten], wr := i0 :: s.wr } a w' ∧ Stays G G2 s { s with heap := s.heap.set i0 [] ++ [cs ++ es2.flatten], wr := i0 :: s.wr } ∧ Sees G2 (.bsl s.heap.length 0 k (n + es2.length)) v by
        obtain ⟨v, w', hrun, G2, hR, hS, hSee⟩ := hgoal
        unfold Oper.wp
        rw [hrun]
        exact ⟨G2, cls, hR.puts (fits_dst hf) hSee (.none _ rfl) (fun _ => rfl), hS.wr_eq (puts_wr _ _ _ _)⟩
      by_cases hfits : n + es2.length ≤ cap
      · -- in place
        have e2 : o2 = G.base i0 + off := by omega
        subst e2
        have hroom : G.base i0 + off + us.length + news.length ≤ G.room b := by
          have h1 := hm.2
          have h2 : (n + es2.length) * k ≤ cap * k := Nat.mul_le_mul_right k hfits
          rw [Nat.add_mul] at h2
          rw [hul, hnl]; omega
        have hrun := run_append_room_src (P := P) w t u o.type e i ht hi b (G.base i0 + off) n cap (a.eval x) es2.length news (by rw [hik]; exact hsrc) hfits
          (fun j hj => (h.ok.obj.room b _ (by rw [hik]; omega)).1) (fun j hj => (h.ok.obj.room b _ (by rw [hik]; omega)).2)
        rw [hik, ← hul] at hrun
        have hrun2 : (execOp a.eval o).run P w = .ok (.value (.slice (some ⟨b, G.base i0 + off, none⟩) (n + es2.length) cap)) (w.setCells b (G.base i0 + off + us.length) news) := by
          simp [execOp, ho, resolve, invoke, builtin, hv, hrun]
        have hdead : ∀ j : Nat, (G.setBox i0 []).boxes[j]? = some b → (G.setBox i0 []).boxv[j]? = some [] := fun j hj => by
          show (G.boxv.set i0 [])[j]? = some []
          rw [List.getElem?_set]
          by_cases e : i0 = j
          · rw [if_pos e, if_pos hvl]
          · rw [if_neg e]
            exact h.ok.nodup.other hb.1 hj e hus hune
        have hW2 := hR1.ok.regrow (us := us) (news := news) hb.2 (b3 hune) hdead b1 b2 (G.base i0 + off) husc hroom
        have hE2 : Ext (G.setBox i0 []) ((G.setBox i0 []).newBoxAt b (us ++ news) (G.base i0 + off)) := Ext.newBoxAt _ _ _
        have hR2 := hR1.more hE2 hW2 rfl rfl ⟨hSL.1, fun j c hj => (hSL.2 j c hj).ext hE1⟩ hone hids
        have hS2 : Stays (G.setBox i0 []) ((G.setBox i0 []).newBoxAt b (us ++ news) (G.base i0 + off)) { s with heap := s.heap.set i0 [], wr := i0 :: s.wr } { s with heap := s.heap.set i0 [] ++ [cs ++ es2.flatten], wr := i0 :: s.wr } :=
          ⟨hE2, [], rfl, fun i hi _ => by show ((G.setBox i0 []).boxv ++ [_])[i]? = _; rw [List.getElem?_append_left hi]⟩
        refine ⟨_, _, hrun2, _, hR2, hS1.trans hS2 (by simp [Ghost.setBox]), ?_⟩
        have hbn : ((G.setBox i0 []).newBoxAt b (us ++ news) (G.base i0 + off)).base s.heap.length = G.base i0 + off := by rw [h.heapLen]; exact Ghost.newBoxAt_new
        refine .bsl (G := (G.setBox i0 []).newBoxAt b (us ++ news) (G.base i0 + off)) s.heap.length 0 k (n + es2.length) b cap ⟨?_, hb.2⟩ hfits ⟨hm.1, ?_⟩ (G.base i0 + off) (.inr ?_)
        · show (G.boxes ++ [b])[s.heap.length]? = _
          rw [h.heapLen]; simp
        · rw [hbn, Nat.add_zero]; exact hm.2
        · rw [hbn, Nat.add_zero]
      · -- moved
        have hfirst : (Builtin.firstCells i.size n (.slice (some ⟨b, o2, none⟩) n cap)).run P w.drew = .ok us.toArray w.drew :=
          run_firstCells_some w.drew i.size n ⟨b, o2, none⟩ n cap us (by rw [hul, hik]) fun p v hv => by
            have hp := (List.getElem?_eq_some_iff.1 hv).1
            have hn0 : n ≠ 0 := fun e => by rw [hul, e, Nat.zero_mul] at hp; omega
            have e2 : o2 = G.base i0 + off := by omega
            rw [add_plain, World.cell?_drew, e2]
            exact husc p v hv
        have hrun := run_append_grow_src (P := P) w t u o.type e i zv ht hi hzv (some ⟨b, o2, none⟩) n cap us hfirst (a.eval x) es2.length news (by rw [hik]; exact hsrc) (by omega) (by omega) (growslice_fits (by omega) hfit)
        have hge := grownCap_ge w (n + es2.length) cap e
        have hcm : grownCap w (n + es2.length) cap e ≤ maxLen := grownCap_le_maxLen w _ _ e (by unfold maxLen; omega)
        obtain ⟨nc, hnc⟩ : ∃ nc, nc = grownCap w (n + es2.length) cap e := ⟨_, rfl⟩
        rw [← hnc] at hrun hge hcm
        obtain ⟨ds, hds⟩ : ∃ ds : Array Value, ds = (us ++ news).toArray ++ Builtin.zeroCells zv.cells (nc - (n + es2.length)) := ⟨_, rfl⟩
        rw [← hds] at hrun
        have hat : ∀ (j : Nat) (x : Value), (us ++ news)[j]? = some x → ds[j]? = some x := fun j x hx => by
          have hlt := (List.getElem?_eq_some_iff.1 hx).1
          rw [hds, Array.getElem?_append_left (by simpa using hlt)]
          simpa using hx
        have hroom : nc * k ≤ ds.size := by
          rw [hds, Array.size_append, size_zeroCells, hzs]
          simp only [List.size_toArray, List.length_append, hul, hnl]
          rw [← Nat.add_mul, ← Nat.add_mul]
          exact Nat.mul_le_mul_right k (by omega)
        have hrun2 : (execOp a.eval o).run P w = .ok (.value (.slice (some ⟨w.heap.size, 0, none⟩) (n + es2.length) nc)) (w.drew.alloc (.cells ds e)) := by
          simp [execOp, ho, resolve, invoke, builtin, hv, hrun]
        obtain ⟨h2, h3⟩ := hR1.drew.newBoxR (zs := cs ++ es2.flatten) (vs := us ++ news) ds e hat ⟨hSL.1, fun j c hj => (hSL.2 j c hj).ext hE1⟩ hone hids k (n + es2.length) nc (by omega) ⟨hcm, hroom⟩
        have hE2 : Ext (G.setBox i0 []) ((G.setBox i0 []).newRoom w.heap.size (us ++ news) ds.size) := Ext.newRoom (fun i hi => by have := (hR1.ok.boxlt hi).1; omega) _ _
        have hS2 : Stays (G.setBox i0 []) ((G.setBox i0 []).newRoom w.heap.size (us ++ news) ds.size) { s with heap := s.heap.set i0 [], wr := i0 :: s.wr } { s with heap := s.heap.set i0 [] ++ [cs ++ es2.flatten], wr := i0 :: s.wr } :=
          ⟨hE2, [], rfl, fun i hi _ => by show ((G.setBox i0 []).boxv ++ [_])[i]? = _; rw [List.getElem?_append_left hi]⟩
        exact ⟨_, _, hrun2, _, h2, hS1.trans hS2 (by simp [Ghost.setBox]), by rw [hlen1] at h3; exact h3⟩
  | _ => rw [hv] at hgy; cases hgy
theorem nil_value {G : Ghost} {k : Nat} {es : List (List AV)} {room : Room} {v : Value} (h : Sees G (.sl k es (some true) room) v) : v = .slice none 0 0 := by
  cases h with
  | sl _ _ _ _ a0 len cap uu hlen hn hkk hcap hmx hr hc hs ho1 =>
    have h1 := hn.2.1 rfl
    subst h1
    obtain ⟨h2, h3⟩ := hn.1 rfl
    rw [h2, h3]
theorem empty_value {G : Ghost} {k : Nat} {es : List (List AV)} {nul : Option Bool} {room : Room} {v : Value} (h : Sees G (.sl k es nul room) v) (he : nul = some true ∨ (nul = none ∧ es = [] ∧ room = .exact)) : ∃ a, v = .slice a 0 0 := by
  rcases he with rfl | ⟨rfl, rfl, rfl⟩
  · exact ⟨none, nil_value h⟩
  · cases h with
    | sl _ _ _ _ a0 len cap uu hlen hn hkk hcap hmx hr hc hs ho1 =>
      have h1 : len = 0 := hlen
      have h2 := hr rfl
      subst h1
      exact ⟨a0, by rw [h2]⟩
theorem eff_appendNil (o : Oper) (t u e e' : TypeId) (k : Nat) (i : TypeInfo) (z : List Value) (y x : Operand) (ho : o.op = .call { callee := .builtin .append, args := #[y, x], argTypes := #[t, u] }) (he : elemK P t = some (e, k)) (hz : zeroC P e = some z) (hzk : z.length = k) (hi : P.info? e = some i) (hu : P.underlying u = some (.slice e'))
    (k1 : Nat) (es : List (List AV)) (nul : Option Bool) (room : Room) (hy : s.get y = .sl k1 es nul room) (hem : nul = some true ∨ (nul = none ∧ es = [] ∧ room = .exact))
    (es2 : List (List AV)) (hr : rowsOf s.heap k (s.get x) = some es2) (hne : es2 ≠ []) (hid : ∀ c ∈ es2.flatten, c.idOf = none) (hfit : es2.length * i.bytes ≤ 140737488355328) (hfit2 : es2.length ≤ 140737488355328) (hf : fitsAll N o = true) :
    OpS P C N s (({ s with heap := s.heap ++ [es2.flatten] } : St).puts o.dst (.bsl s.heap.length 0 k es2.length) false) o Q := fun G cls a w h => by
  obtain ⟨ht, hk, hk0⟩ := elemK_spec he
  obtain ⟨i', zv, hi', hzv, hzl, hz1⟩ := zeroC_spec hz
  rw [hi] at hi'; injection hi' with hi'; subst hi'
  have hik : i.size = k := by unfold szOf at hk; rw [hi] at hk; injection hk
  have hzs : zv.cells.size = k := by rw [← hzk, ← hzl]; simp
  have hgy := h.get (fits_mem hf (show y ∈ o.op.operands.toList by rw [ho]; simp [Op.operands, Call.operands]))
  have hgx := h.get (fits_mem hf (show x ∈ o.op.operands.toList by rw [ho]; simp [Op.operands, Call.operands]))
  rw [hy] at hgy
  obtain ⟨a0, hv⟩ := empty_value hgy hem
  have hpos : 0 < es2.length := List.length_pos_iff.2 hne
  obtain ⟨news, hsrc, hkk, hs2⟩ := src_rows h hgx hk0 hu hr hne
  have hnl : news.length = es2.length * k := hsrc.newsLen
  have hfirst : (Builtin.firstCells i.size 0 (.slice a0 0 0)).run P w.drew = .ok ([] : List Value).toArray w.drew := by
    cases a0 with
    | none => exact run_firstCells_none w.drew _ _ _ _
    | some ad => exact run_firstCells_some w.drew i.size 0 ad 0 0 [] (by simp) fun p v hv => by simp at hv
  have hrun := run_append_grow_src (P := P) w t u o.type e i zv ht hi hzv a0 0 0 [] hfirst (a.eval x) es2.length news (by rw [hik]; exact hsrc) (by omega) (by omega) (growslice_fits (by omega) (by rw [Nat.zero_add]; exact hfit))
  have hge := grownCap_ge w (0 + es2.length) 0 e
  have hcm : grownCap w (0 + es2.length) 0 e ≤ maxLen := grownCap_le_maxLen w _ _ e (by unfold maxLen; omega)
  obtain ⟨nc, hnc⟩ : ∃ nc, nc = grownCap w (0 + es2.length) 0 e := ⟨_, rfl⟩
  rw [← hnc] at hrun hge hcm
  obtain ⟨cs, hcs⟩ : ∃ cs : Array Value, cs = (([] : List Value) ++ news).toArray ++ Builtin.zeroCells zv.cells (nc - (0 + es2.length)) := ⟨_, rfl⟩
  rw [← hcs] at hrun
  have hat : ∀ (j : Nat) (x : Value), news[j]? = some x → cs[j]? = some x := fun j x hx => by
    have hlt := (List.getElem?_eq_some_iff.1 hx).1
    rw [hcs, List.nil_append, Array.getElem?_append_left (by simpa using hlt)]
    simpa using hx
  have hrun2 : (execOp a.eval o).run P w = .ok (.value (.slice (some ⟨w.heap.size, 0, none⟩) (0 + es2.length) nc)) (w.drew.alloc (.cells cs e)) := by
    simp [execOp, ho, resolve, invoke, builtin, hv, hrun]
  unfold Oper.wp
  rw [hrun2, Nat.zero_add]
  have hroom : nc * k ≤ cs.size := by
    rw [hcs, Array.size_append, size_zeroCells, hzs]
    simp only [List.nil_append, List.size_toArray, hnl, Nat.zero_add]
    rw [← Nat.add_mul]
    exact Nat.mul_le_mul_right k (by omega)
  have hSL : SeesL G es2.flatten news := ⟨by rw [flat_len es2 hkk, hnl], fun j c hj => by
    obtain ⟨p, q, ee, h1, h2, h3⟩ := flat_at es2 j c hkk hj
    rw [h3]
    exact hs2 p ee h1 q c h2⟩
  obtain ⟨h2, h3⟩ := h.drew.newBoxR (zs := es2.flatten) (vs := news) cs e hat hSL hsrc.one hid k es2.length nc (by omega) ⟨hcm, hroom⟩
  exact ⟨_, cls, h2.puts (fits_dst hf) h3 (.none _ rfl) (fun _ => rfl), ⟨Ext.newRoom (fun i hi => by have := (h.drew.ok.boxlt hi).1; omega) _ _, [], puts_wr _ _ _ _, fun i hi _ => by show (G.boxv ++ [news])[i]? = _; rw [List.getElem?_append_left hi]⟩⟩
theorem eff_appendX (o : Oper) (t u e e' : TypeId) (k : Nat) (i : TypeInfo) (z : List Value) (y x : Operand) (ho : o.op = .call { callee := .builtin .append, args := #[y, x], argTypes := #[t, u] }) (he : elemK P t = some (e, k)) (hz : zeroC P e = some z) (hzk : z.length = k) (hi : P.info? e = some i) (hu : P.underlying u = some (.slice e'))
    (es : List (List AV)) (nul : Option Bool) (hy : s.get y = .sl k es nul .exact) (hey : es ≠ []) (hyid : ∀ c ∈ es.flatten, c.idOf = none)
    (es2 : List (List AV)) (hr : rowsOf s.heap k (s.get x) = some es2) (hne : es2 ≠ []) (hid : ∀ c ∈ es2.flatten, c.idOf = none) (hfit : (es.length + es2.length) * i.bytes ≤ 140737488355328) (hfit2 : es.length + es2.length ≤ 140737488355328) (hf : fitsAll N o = true) :
    OpS P C N s (({ s with heap := s.heap ++ [es.flatten ++ es2.flatten] } : St).puts o.dst (.bsl s.heap.length 0 k (es.length + es2.length)) false) o Q := fun G cls a w h => by
  obtain ⟨ht, hk, hk0⟩ := elemK_spec he
  obtain ⟨i', zv, hi', hzv, hzl, hz1⟩ := zeroC_spec hz
  rw [hi] at hi'; injection hi' with hi'; subst hi'
  have hik : i.size = k := by unfold szOf at hk; rw [hi] at hk; injection hk
  have hzs : zv.cells.size = k := by rw [← hzk, ← hzl]; simp
  have hgy := h.get (fits_mem hf (show y ∈ o.op.operands.toList by rw [ho]; simp [Op.operands, Call.operands]))
  have hgx := h.get (fits_mem hf (show x ∈ o.op.operands.toList by rw [ho]; simp [Op.operands, Call.operands]))
  rw [hy] at hgy
  have hpos : 0 < es2.length := List.length_pos_iff.2 hne
  have hposy : 0 < es.length := List.length_pos_iff.2 hey
  obtain ⟨news, hsrc, hkk, hs2⟩ := src_rows h hgx hk0 hu hr hne
  have hnl : news.length = es2.length * k := hsrc.newsLen
  cases hv : a.eval y with
  | slice a0 len cap =>
    rw [hv] at hgy
    cases hgy with
    | sl _ _ _ _ _ _ _ uu hlen hn hkky hcap hmx hrr hc hs ho1 =>
      subst hlen
      have hce := hrr rfl
      subst hce
      obtain ⟨b, p, rfl, hcell⟩ := hc hposy
      have hmod : ∀ q, q < es.length * k → q / k < es.length ∧ q % k < k := fun q hq => ⟨(Nat.div_lt_iff_lt_mul hk0).2 hq, Nat.mod_lt _ hk0⟩
      obtain ⟨us, hus⟩ : ∃ us, us = (List.range (es.length * k)).map fun q => uu (q / k) (q % k) := ⟨_, rfl⟩
      have hul : us.length = es.length * k := by rw [hus]; simp
      have huat : ∀ j (v : Value), us[j]? = some v → w.cell? ⟨b, p + j, none⟩ = some v ∧ v.oneCell' = true := fun j v hj => by
        have hjl : j < es.length * k := by rw [← hul]; exact (List.getElem?_eq_some_iff.1 hj).1
        rw [hus, List.getElem?_map, List.getElem?_range hjl] at hj
        injection hj with hj
        obtain ⟨h3, h4⟩ := hmod j hjl
        have h5 := h.ok.cell (hcell _ _ h3 h4)
        rw [← hj]
        refine ⟨?_, ho1 _ _ h3 h4⟩
        rw [← h5, Nat.add_assoc, Nat.div_add_mod' j k]
      have hsy : ∀ i e, es[i]? = some e → ∀ j c, e[j]? = some c → Sees G c (us.getD (i * k + j) undef) := fun i e he j c hj => by
        have hil : i < es.length := (List.getElem?_eq_some_iff.1 he).1
        have hjl : j < k := by rw [← hkky e (List.mem_of_getElem? he)]; exact (List.getElem?_eq_some_iff.1 hj).1
        have hp : i * k + j < es.length * k := by
          have : (i + 1) * k ≤ es.length * k := Nat.mul_le_mul_right k hil
          rw [Nat.add_mul, Nat.one_mul] at this; omega
        rw [hus, List.getD_eq_getElem?_getD, List.getElem?_map, List.getElem?_range hp]
        have e1 : (i * k + j) / k = i := by rw [Nat.mul_comm, Nat.mul_add_div hk0, Nat.div_eq_of_lt hjl, Nat.add_zero]
        have e2 : (i * k + j) % k = j := by rw [Nat.mul_comm, Nat.mul_add_mod, Nat.mod_eq_of_lt hjl]
        simp only [Option.map_some, Option.getD_some, e1, e2]
        exact hs i e he j c hj
      have hfirst : (Builtin.firstCells i.size es.length (.slice (some ⟨b, p, none⟩) es.length es.length)).run P w.drew = .ok us.toArray w.drew :=
        run_firstCells_some w.drew i.size es.length ⟨b, p, none⟩ es.length es.length us (by rw [hul, hik]) fun q v hv => by
          rw [add_plain, World.cell?_drew]
          exact (huat q v hv).1
      have hrun := run_append_grow_src (P := P) w t u o.type e i zv ht hi hzv (some ⟨b, p, none⟩) es.length es.length us hfirst (a.eval x) es2.length news (by rw [hik]; exact hsrc) (by omega) (by omega) (growslice_fits (by omega) hfit)
      have hge := grownCap_ge w (es.length + es2.length) es.length e
      have hcm : grownCap w (es.length + es2.length) es.length e ≤ maxLen := grownCap_le_maxLen w _ _ e (by unfold maxLen; omega)
      obtain ⟨nc, hnc⟩ : ∃ nc, nc = grownCap w (es.length + es2.length) es.length e := ⟨_, rfl⟩
      rw [← hnc] at hrun hge hcm
      obtain ⟨ds, hds⟩ : ∃ ds : Array Value, ds = (us ++ news).toArray ++ Builtin.zeroCells zv.cells (nc - (es.length + es2.length)) := ⟨_, rfl⟩
      rw [← hds] at hrun
      have hat : ∀ (j : Nat) (x : Value), (us ++ news)[j]? = some x → ds[j]? = some x := fun j x hx => by
        have hlt := (List.getElem?_eq_some_iff.1 hx).1
        rw [hds, Array.getElem?_append_left (by simpa using hlt)]
        simpa using hx
      have hroom : nc * k ≤ ds.size := by
        rw [hds, Array.size_append, size_zeroCells, hzs]
        simp only [List.size_toArray, List.length_append, hul, hnl]
        rw [← Nat.add_mul, ← Nat.add_mul]
        exact Nat.mul_le_mul_right k (by omega)
      have hrun2 : (execOp a.eval o).run P w = .ok (.value (.slice (some ⟨w.heap.size, 0, none⟩) (es.length + es2.length) nc)) (w.drew.alloc (.cells ds e)) := by
        simp [execOp, ho, resolve, invoke, builtin, hv, hrun]
      unfold Oper.wp
      rw [hrun2]
      have hS1 : SeesL G es.flatten us := ⟨by rw [flat_len es hkky, hul], fun j c hj => by
        obtain ⟨p, q, ee, h1, h2, h3⟩ := flat_at es j c hkky hj
        rw [h3]
        exact hsy p ee h1 q c h2⟩
      have hS2 : SeesL G es2.flatten news := ⟨by rw [flat_len es2 hkk, hnl], fun j c hj => by
        obtain ⟨p, q, ee, h1, h2, h3⟩ := flat_at es2 j c hkk hj
        rw [h3]
        exact hs2 p ee h1 q c h2⟩
      obtain ⟨h2, h3⟩ := h.drew.newBoxR (zs := es.flatten ++ es2.flatten) (vs := us ++ news) ds e hat (hS1.append hS2) (fun v hv => by
        rcases List.mem_append.1 hv with hv | hv
        · obtain ⟨j, hj⟩ := List.getElem?_of_mem hv
          exact (huat j v hj).2
        · exact hsrc.one v hv) (fun c hc => by
        rcases List.mem_append.1 hc with hc | hc
        · exact hyid c hc
        · exact hid c hc) k (es.length + es2.length) nc (by omega) ⟨hcm, hroom⟩
      exact ⟨_, cls, h2.puts (fits_dst hf) h3 (.none _ rfl) (fun _ => rfl), ⟨Ext.newRoom (fun i hi => by have := (h.drew.ok.boxlt hi).1; omega) _ _, [], puts_wr _ _ _ _, fun i hi _ => by show (G.boxv ++ [_])[i]? = _; rw [List.getElem?_append_left hi]⟩⟩
  | _ => rw [hv] at hgy; cases hgy
theorem eff_appendE (o : Oper) (t u e e' : TypeId) (k : Nat) (i : TypeInfo) (z : List Value) (y x : Operand) (ho : o.op = .call { callee := .builtin .append, args := #[y, x], argTypes := #[t, u] }) (he : elemK P t = some (e, k)) (hi : P.info? e = some i) (hu : P.underlying u = some (.slice e'))
    (hx : match s.get x with | .sl _ es _ _ => es = [] | .bsl _ _ _ m => m = 0 | _ => False) (av : AV) (hy : (∃ k1 es room, s.get y = .sl k1 es (some true) room ∧ av = .sl 0 [] (some true) .exact) ∨ (∃ j off k1 n, s.get y = .bsl j off k1 n ∧ av = .bsl j off k1 n) ∨ (∃ k1, s.get y = .sl k1 [] (some false) .exact ∧ av = .sl 0 [] (some false) .exact) ∨ ∃ k1 es, s.get y = .sl k1 es none .no ∧ av = .sl k1 es none .no) (hf : fitsAll N o = true) :
    OpS P C N s (s.puts o.dst av false) o Q := fun G cls a w h => by
  obtain ⟨ht, hk, hk0⟩ := elemK_spec he
  have hik : i.size = k := by unfold szOf at hk; rw [hi] at hk; injection hk
  have hgy := h.get (fits_mem hf (show y ∈ o.op.operands.toList by rw [ho]; simp [Op.operands, Call.operands]))
  have hgx := h.get (fits_mem hf (show x ∈ o.op.operands.toList by rw [ho]; simp [Op.operands, Call.operands]))
  have hsrc : Src P i.size u (a.eval x) 0 [] w := by
    split at hx
    · rename_i k2 es nul room hgy2
      subst hx
      rw [hgy2] at hgx
      cases hv : a.eval x with
      | slice a0 len cap =>
        rw [hv] at hgx
        cases hgx with
        | sl _ _ _ _ _ _ _ uu hlen hn hkk hcap hmx hr hc hs ho1 =>
          have : len = 0 := hlen
          subst this
          cases a0 with
          | none => exact Src.ofNil w hu cap
          | some ad => exact Src.ofSlice w hu ad 0 cap [] (by simp) (fun j v hj => by simp at hj) (fun v hv => by cases hv)
      | _ => rw [hv] at hgx; cases hgx
    · rename_i j off k2 m hgy2
      subst hx
      rw [hgy2] at hgx
      cases hv : a.eval x with
      | slice a0 len cap =>
        rw [hv] at hgx
        cases hgx with
        | bsl _ _ _ _ b _ hb hcap hm o2 ho2 => exact Src.ofSlice w hu ⟨b, o2, none⟩ 0 cap [] (by simp) (fun j v hj => by simp at hj) (fun v hv => by cases hv)
      | _ => rw [hv] at hgx; cases hgx
    · exact hx.elim
  suffices hgoal : ∃ a0 len cap, a.eval y = .slice a0 len cap ∧ len ≤ cap ∧ Sees G av (.slice a0 len cap) by
    obtain ⟨a0, len, cap, hv, hcap, hsee⟩ := hgoal
    have hrun := run_append_nothing (P := P) w t u o.type e i ht hi a0 len cap hcap (a.eval x) hsrc
    have hrun2 : (execOp a.eval o).run P w = .ok (.value (.slice a0 len cap)) w := by
      simp [execOp, ho, resolve, invoke, builtin, hv, hrun]
    unfold Oper.wp
    rw [hrun2]
    have hid : av.idOf = none := by rcases hy with ⟨_, _, _, _, rfl⟩ | ⟨_, _, _, _, _, rfl⟩ | ⟨_, _, rfl⟩ | ⟨_, _, _, rfl⟩ <;> rfl
    exact ⟨G, cls, h.puts (fits_dst hf) hsee (.none _ hid) (fun _ => hid), Stays.same (puts_wr _ _ _ _)⟩
  rcases hy with ⟨k1, es, room, hy, rfl⟩ | ⟨j, off, k1, n, hy, rfl⟩ | ⟨k1, hy, rfl⟩ | ⟨k1, es, hy, rfl⟩
  · rw [hy] at hgy
    have hv := nil_value hgy
    exact ⟨none, 0, 0, hv, Nat.le_refl _, .sl 0 [] (some true) .exact none 0 0 (fun _ _ => undef) rfl ⟨fun _ => ⟨rfl, rfl⟩, fun _ => rfl, fun h => (by cases h)⟩ (fun e h => by cases h) (Nat.le_refl _) (by simp [maxLen]) (fun _ => rfl) (fun h => by simp at h) (fun i e h => by simp at h) (fun i j h => by simp at h)⟩
  · rw [hy] at hgy
    cases hv : a.eval y with
    | slice a0 len cap =>
      rw [hv] at hgy
      refine ⟨a0, len, cap, rfl, ?_, hgy⟩
      cases hgy with
      | bsl _ _ _ _ b _ hb hcap hm o2 ho2 => exact hcap
    | _ => rw [hv] at hgy; cases hgy
  · rw [hy] at hgy
    cases hv : a.eval y with
    | slice a0 len cap =>
      rw [hv] at hgy
      cases hgy with
      | sl _ _ _ _ _ _ _ uu hlen hn hkk hcap hmx hr hc hs ho1 =>
        have h1 : len = 0 := hlen
        have h2 := hr rfl
        subst h1
        subst h2
        exact ⟨a0, 0, 0, rfl, Nat.le_refl _, .sl 0 [] (some false) .exact a0 0 0 (fun _ _ => undef) rfl hn (fun e h => by cases h) (Nat.le_refl _) (by simp [maxLen]) (fun _ => rfl) (fun h => by simp at h) (fun i e h => by simp at h) (fun i j h => by simp at h)⟩
    | _ => rw [hv] at hgy; cases hgy
  · rw [hy] at hgy
    cases hv : a.eval y with
    | slice a0 len cap =>
      rw [hv] at hgy
      refine ⟨a0, len, cap, rfl, ?_, hgy⟩
      cases hgy with
      | sl _ _ _ _ _ _ _ uu hlen hn hkk hcap hmx hr hc hs ho1 => exact hcap
    | _ => rw [hv] at hgy; cases hgy
theorem made_get (z : List Value) : ∀ (n j : Nat) (x : Value), (List.replicate n z).flatten[j]? = some x → x ∈ z := fun n j x h => by
  have := List.mem_of_getElem? h
  obtain ⟨l, h1, h2⟩ := List.mem_flatten.1 this
  rw [(List.mem_replicate.1 h1).2] at h2
  exact h2
theorem madeCells_get (z : Array Value) (hz : 0 < z.size) (n j : Nat) (hj : j < n * z.size) : (madeCells z (n * z.size))[j]? = some (z.toList.getD (j % z.size) undef) := by
  have hm := Nat.mod_lt j hz
  unfold madeCells
  rw [Array.getElem?_map, Array.getElem?_range, if_pos hj]
  simp [List.getD_eq_getElem?_getD, hm]
theorem rep_get (z : List Value) (hz : 0 < z.length) : ∀ (n j : Nat), j < n * z.length → (List.replicate n z).flatten[j]? = some (z.getD (j % z.length) undef)
  | 0, j, h => by omega
  | n + 1, j, h => by
    rw [List.replicate_succ, List.flatten_cons]
    by_cases hj : j < z.length
    · rw [List.getElem?_append_left hj, Nat.mod_eq_of_lt hj, List.getD_eq_getElem?_getD, List.getElem?_eq_getElem hj]; rfl
    · rw [List.getElem?_append_right (by omega), rep_get z hz n _ (by rw [Nat.add_mul] at h; omega), ← Nat.mod_eq_sub_mod (by omega)]
theorem rep_len (z : List Value) (n : Nat) : (List.replicate n z).flatten.length = n * z.length := by simp
theorem seesL_rep {G : Ghost} {zs : List AV} {vs : List Value} (h : SeesL G zs vs) : ∀ n : Nat, SeesL G (List.replicate n zs).flatten (List.replicate n vs).flatten
  | 0 => SeesL.nil
  | n + 1 => by
    rw [List.replicate_succ, List.replicate_succ, List.flatten_cons, List.flatten_cons]
    exact h.append (seesL_rep h n)
theorem eff_makeB (o : Oper) (t e : TypeId) (k : Nat) (i : TypeInfo) (z : List Value) (l y : Operand) (n : Int) (ho : o.op = .makeSlice t l y) (he : elemK P t = some (e, k)) (hz : zeroC P e = some z) (hi : P.info? e = some i) (hik : i.size = k) (hzk : z.length = k) (u : Nat) (hl : l = .tmp u) (hl2 : slotOf y = some u) (hn : s.get y = .v (.int .i64 n))
    (h0 : 0 ≤ n) (hb : (i.bytes : Int) * n ≤ 140737488355328) (hm : n ≤ 140737488355328) (hf : fitsAll N o = true) :
    OpS P C N s (({ s with heap := s.heap ++ [(List.replicate n.toNat (z.map ofC1)).flatten] } : St).puts o.dst (.bsl s.heap.length 0 k n.toNat) false) o Q := fun G cls a w h => by
  have hly : l = y := by cases y <;> simp [slotOf] at hl2; rw [hl, hl2]
  subst hly
  obtain ⟨ht, hk, hk0⟩ := elemK_spec he
  obtain ⟨i', zv, hi', hzv, hzl, hz1⟩ := zeroC_spec hz
  rw [hi] at hi'; injection hi' with hi'; subst hi'
  have hgy := h.get (fits_mem hf (show l ∈ o.op.operands.toList by rw [ho]; simp [Op.operands]))
  rw [hn] at hgy
  have hgv := hgy.inv_v
  have hmake := run_make (P := P) w t e i zv ht hi hzv .i64 .i64 n n h0 (Int.le_refl _) (by omega) (by omega)
  obtain ⟨cs, hcs⟩ : ∃ cs, cs = madeCells zv.cells (n.toNat * i.size) := ⟨_, rfl⟩
  have hsz : cs.size = n.toNat * k := by rw [hcs, size_madeCells, hik]
  rw [← hcs] at hmake
  have hrun : (execOp a.eval o).run P w = .ok (.value (.slice (some ⟨w.heap.size, 0, none⟩) n.toNat n.toNat)) (w.alloc (.cells cs e)) := by
    simp [execOp, ho, hgv, hmake]
  unfold Oper.wp
  rw [hrun]
  have hzs : zv.cells.size = k := by rw [← hzk, ← hzl]; simp
  have hz0 : 0 < z.length := by omega
  obtain ⟨h2, h3⟩ := h.newBoxR (zs := (List.replicate n.toNat (z.map ofC1)).flatten) (vs := (List.replicate n.toNat z).flatten) cs e (fun j x hx => by
      have hj := (List.getElem?_eq_some_iff.1 hx).1
      rw [rep_len] at hj
      rw [rep_get z hz0 _ j hj] at hx
      rw [hcs, hik, ← hzs, madeCells_get zv.cells (by omega) _ j (by rw [hzs, ← hzk]; exact hj), ← hx, hzl, hzs, hzk]) (seesL_rep ⟨by simp, fun j c hj => by
        rw [List.getElem?_map] at hj
        cases hx : z[j]? with
        | none => rw [hx] at hj; cases hj
        | some y => rw [hx] at hj; injection hj with hj; subst hj; rw [List.getD_eq_getElem?_getD, hx]; exact sees_ofC1 y⟩ _) (fun x hx => by
        obtain ⟨j, hj⟩ := List.getElem?_of_mem hx
        have := made_get z _ j x hj
        rw [← hzl] at this
        exact List.all_eq_true.1 hz1 x this) (fun c hc => by
        obtain ⟨l2, h4, h5⟩ := List.mem_flatten.1 hc
        rw [(List.mem_replicate.1 h4).2] at h5
        obtain ⟨y, _, rfl⟩ := List.mem_map.1 h5; exact ofC1_id y) k n.toNat n.toNat (Nat.le_refl _) ⟨by unfold maxLen; omega, by rw [hsz]; exact Nat.le_refl _⟩
  exact ⟨_, cls, h2.puts (fits_dst hf) h3 (.none _ rfl) (fun _ => rfl), ⟨Ext.newRoom (fun i hi => by have := (h.ok.boxlt hi).1; omega) _ _, [], puts_wr _ _ _ _, fun i hi _ => by show (G.boxv ++ [_])[i]? = _; rw [List.getElem?_append_left hi]⟩⟩
end
theorem xappendA_pick {s : St} {k bytes : Nat} {d : Option Nat} {a x : AV} {K : St → List Nat → Prop} (h : xappendA s k bytes d a x K) : ∃ s' l, K s' l ∧ xappendA s k bytes d a x fun s2 l2 => s2 = s' ∧ l2 = l := by
  rcases h with h | h | h
  · unfold xappend at h
    split at h
    · obtain ⟨h1, h2, h3, h4, h5⟩ := h
      exact ⟨_, _, h5, .inl ⟨h1, h2, h3, h4, rfl, rfl⟩⟩
    · exact h.elim
  · obtain ⟨es2, hr, hne, hid, hm⟩ := h
    split at hm
    · rcases hm with ⟨h2, h3, h4, h5⟩ | ⟨h2, h3, h4, h5, h6, h7, h8⟩
      · exact ⟨_, _, h5, .inr (.inl ⟨es2, hr, hne, hid, .inl ⟨h2, h3, h4, rfl, rfl⟩⟩)⟩
      · exact ⟨_, _, h8, .inr (.inl ⟨es2, hr, hne, hid, .inr ⟨h2, h3, h4, h5, h6, h7, rfl, rfl⟩⟩)⟩
    · obtain ⟨h3, cs, h4, h5, h6, h7, h8, h9, h10⟩ := hm
      exact ⟨_, _, h10, .inr (.inl ⟨es2, hr, hne, hid, h3, cs, h4, h5, h6, h7, h8, h9, rfl, rfl⟩)⟩
    · exact hm.elim
  · obtain ⟨hx, hm⟩ := h
    split at hm
    · rcases hm with ⟨h2, h3, h4⟩ | ⟨h2, h3, h4, h5, h6⟩ | ⟨h2, h3, h4, h5⟩
      · exact ⟨_, _, h4, .inr (.inr ⟨hx, .inl ⟨h2, h3, rfl, rfl⟩⟩)⟩
      · exact ⟨_, _, h6, .inr (.inr ⟨hx, .inr (.inl ⟨h2, h3, h4, h5, rfl, rfl⟩)⟩)⟩
      · exact ⟨_, _, h5, .inr (.inr ⟨hx, .inr (.inr ⟨h2, h3, h4, rfl, rfl⟩)⟩)⟩
    · exact ⟨_, _, hm.2, .inr (.inr ⟨hx, hm.1, rfl, rfl⟩)⟩
    · exact hm.elim
theorem eff_appendA {P : Program} {C : Ctx} {N : Nat} {s : St} {Q : Exit → Act → World → Prop} {K : St → List Nat → Prop} (o : Oper) (t u e e' : TypeId) (k : Nat) (i : TypeInfo) (z : List Value) (y x : Operand) (ho : o.op = .call { callee := .builtin .append, args := #[y, x], argTypes := #[t, u] }) (he : elemK P t = some (e, k)) (hz : zeroC P e = some z) (hzk : z.length = k) (hi : P.info? e = some i) (hu : P.underlying u = some (.slice e')) (hf : fitsAll N o = true)
    (h : xappendA s k i.bytes o.dst (s.get y) (s.get x) K) : ∃ s' l, K s' l ∧ OpS P C N s s' o Q := by
  rcases h with h | h | h
  · unfold xappend at h
    split at h
    · rename_i d k1 es nul room k2 es2 nul2 room2 hd hy hz2
      obtain ⟨h1, h2, h3, h4, h5⟩ := h
      exact ⟨_, _, h5, eff_append o t u e e' k d i z y x ho hd he hz hzk hi hu k1 k2 es es2 nul nul2 room room2 hy hz2 h1 h2 h3 h4 hf⟩
    · exact h.elim
  · obtain ⟨es2, hr, hne, hid, hm⟩ := h
    split at hm
    · rename_i k1 es nul room hy
      rcases hm with ⟨h2, h3, h4, h5⟩ | ⟨h2, h3, h4, h5, h6, h7, h8⟩
      · exact ⟨_, _, h5, eff_appendNil o t u e e' k i z y x ho he hz hzk hi hu k1 es nul room hy h2 es2 hr hne hid h3 h4 hf⟩
      · subst h2 h4
        exact ⟨_, _, h8, eff_appendX o t u e e' k1 i z y x ho he hz hzk hi hu es nul hy h3 h5 es2 hr hne hid h6 h7 hf⟩
    · rename_i i0 off k1 n hy
      obtain ⟨h3, cs, h4, h5, h6, h7, h8, h9, h10⟩ := hm
      subst h3
      exact ⟨_, _, h10, eff_appendG o t u e e' k1 i z y x ho he hz hzk hi hu i0 off n cs hy h4 h5 h6 h7 es2 hr hne hid h8 h9 hf⟩
    · exact hm.elim
  · obtain ⟨hx, hm⟩ := h
    split at hm
    · rename_i k1 es nul room hy
      rcases hm with ⟨h2, h3, h4⟩ | ⟨h2, h3, h4, h5, h6⟩ | ⟨h2, h3, h4, h5⟩
      · subst h3
        exact ⟨_, _, h4, eff_appendE o t u e e' k i z y x ho he hi hu hx _ (.inl ⟨_, _, _, hy, rfl⟩) hf⟩
      · subst h3 h4 h5
        exact ⟨_, _, h6, eff_appendE o t u e e' k i z y x ho he hi hu hx _ (.inr (.inr (.inl ⟨_, hy, rfl⟩))) hf⟩
      · subst h3 h4
        exact ⟨_, _, h5, eff_appendE o t u e e' k i z y x ho he hi hu hx _ (.inr (.inr (.inr ⟨_, _, hy, rfl⟩))) hf⟩
    · rename_i j off k1 n hy
      exact ⟨_, _, hm.2, eff_appendE o t u e e' k i z y x ho he hi hu hx _ (.inr (.inl ⟨_, _, _, _, hy, rfl⟩)) hf⟩
    · exact hm.elim
end Go.Proofs.Ytdfocmmajngelaa.Ax
/- A text's bytes, as a slice. No program is named here. -/
namespace Go.Proofs.Ytdfocmmajngelaa.Ax
open Go.RowKit Go By

theorem bytesWorld_eq (w : World) (e : TypeId) (s : ByteArray) : Lib.bytesWorld w e s = w.drew.alloc (.cells (Lib.bytesCells w e s) e ((Lib.bytesCells w e s).size, (Lib.bytesCells w e s).size + 1)) := by
  have hh : (Lib.bytesWorld w e s).heap = (w.drew.alloc (.cells (Lib.bytesCells w e s) e ((Lib.bytesCells w e s).size, (Lib.bytesCells w e s).size + 1))).heap := by
    apply Array.ext_getElem?
    intro j
    by_cases hj : j < w.heap.size
    · rw [Lib.bytesWorld_at_old w e s j hj]; exact (heap_alloc_old w.drew _ hj).symm
    · by_cases hj2 : j = w.heap.size
      · subst hj2; rw [Lib.bytesWorld_at_new]; exact (heap_alloc_new w.drew _).symm
      · rw [Array.getElem?_eq_none (by rw [Lib.bytesWorld_size]; omega), Array.getElem?_eq_none (by simp; omega)]
  exact congrArg (fun hp => ({ w.drew.alloc (.cells (Lib.bytesCells w e s) e ((Lib.bytesCells w e s).size, (Lib.bytesCells w e s).size + 1)) with heap := hp } : World)) hh
section
variable {G : Ghost} {w : World}
theorem WorldOk.newRoomM (h : WorldOk G w) (vs : List Value) (cs : Array Value) (e : TypeId) (lo hi : Nat) (hl : vs.length ≤ cs.size) (hlo : cs.size ≤ lo) (hc : ∀ (j : Nat) (x : Value), vs[j]? = some x → cs[j]? = some x) : WorldOk (G.setBuf w.heap.size ⟨vs, cs.size⟩) (w.alloc (.cells cs e (lo, hi))) := by
  have hn : ∀ j, (w.alloc (.cells cs e (lo, hi))).cell? ⟨w.heap.size, j, none⟩ = cs[j]? := fun j => cell_of_row _ _ j cs e (lo, hi) (heap_alloc_new w _)
  refine ⟨h.below.alloc h.below.size _, fun b B hB => ?_, fun i b us hb hv => ?_, h.nodup2, h.len, h.objK (Keeps.alloc w _)⟩
  · have hB' : (if b = w.heap.size then some (⟨vs, cs.size⟩ : Buf) else G.bufs b) = some B := hB
    split at hB'
    · rename_i hb
      subst hb
      injection hB' with hB'
      subst hB'
      refine ⟨h.below.size, by simp, hl, fun j hj => ?_, fun j x hx => ?_⟩
      · rw [hn, Array.getElem?_eq_getElem hj, World.frozen?_alloc_mark]
        exact ⟨rfl, by have : ¬ lo ≤ j := by { show ¬ lo ≤ j; have : j < cs.size := hj; omega }
                       simp [this]⟩
      · rw [hn]; exact hc j x hx
    · obtain ⟨h1, h2, h3, h4, h5⟩ := h.buf b B hB'
      refine ⟨h1, by simp; omega, h3, fun j hj => ?_, fun j x hx => ?_⟩
      · rw [(cell_alloc w _ j h2).1, (cell_alloc w _ j h2).2]; exact h4 j hj
      · rw [(cell_alloc w _ j h2).1]; exact h5 j x hx
  · obtain ⟨h1, h2, h3, h4⟩ := h.box i b us hb hv
    refine ⟨h1, by simp; omega, fun hne => ?_, fun j x hx => ?_⟩
    · show (if b = w.heap.size then _ else G.bufs b) = none
      rw [if_neg (by omega)]; exact h3 hne
    · show _ → (w.alloc _).cell? ⟨b, G.base i + j, none⟩ = _ ∧ _
      rw [(cell_alloc w _ _ h2).1]; exact fun hk => ⟨(h4 j x hx hk).1, ((cell_alloc w _ _ h2).2).trans (h4 j x hx hk).2⟩
end
section
variable {P : Program} {C : Ctx} {N : Nat} {s : St} {Q : Exit → Act → World → Prop}
theorem Rel.newRoomM {G : Ghost} {cls : Nat → Id} {a : Act} {w : World} (h : Rel C N G cls s a w) (vs : List Value) (cs : Array Value) (e : TypeId) (lo hi : Nat) (hl : vs.length ≤ cs.size) (hlo : cs.size ≤ lo) (hc : ∀ (j : Nat) (x : Value), vs[j]? = some x → cs[j]? = some x) : Rel C N (G.setBuf w.heap.size ⟨vs, cs.size⟩) cls s a (w.alloc (.cells cs e (lo, hi))) := by
  have hB : ∀ b B, G.bufs b = some B → (G.setBuf w.heap.size ⟨vs, cs.size⟩).bufs b = some B := fun b B hb => by
    have := (h.ok.buf b B hb).2.1
    show (if b = w.heap.size then _ else G.bufs b) = _
    rw [if_neg (by omega), hb]
  have hE := Ext.newBuf h.ok ⟨vs, cs.size⟩
  exact h.next hE (h.ok.newRoomM vs cs e lo hi hl hlo hc) hB ⟨h.heap.1, fun i cs us h1 h2 => by obtain ⟨h3, h5, h4⟩ := h.heap.2 i cs us h1 h2; exact ⟨h3, h5, fun j c hj => (h4 j c hj).ext hE⟩⟩
    (fun i cs us h1 h2 j c hj => by obtain ⟨h3, h4⟩ := h.ownh i cs us h1 h2 j c hj; exact ⟨h3.keep fun b B c hb _ => hB b B hb, h4⟩) h.boxes
theorem eff_s2b (o : Oper) (t u e : TypeId) (y : Operand) (ho : o.op = .convert t u y) (hs : P.underlying t = some .string) (hu : P.underlying u = some (.slice e)) (he : P.underlying e = some (.int .u8)) (b : ByteArray) (hy : s.get y = .v (.string b)) (hfit : b.size ≤ 140737488355328) (hf : fitsAll N o = true) :
    OpS P C N s (s.puts o.dst (.sl 1 (bytesE b.data.toList) none .no) false) o Q := fun G cls a w h => by
  have hg := h.get (fits_mem hf (show y ∈ o.op.operands.toList by rw [ho]; simp [Op.operands]))
  rw [hy] at hg
  have hx := hg.inv_v
  have hrun : (execOp a.eval o).run P w = .ok (.value (.slice (some ⟨w.heap.size, 0, none⟩) b.size (grownCap w b.size 0 e))) (Lib.bytesWorld w e b) := by
    simp [execOp, ho, hx, Lib.run_convert_string_bytes w t u e b hs hu he]
  rw [bytesWorld_eq] at hrun
  have hge := grownCap_ge w b.size 0 e
  have hcm : grownCap w b.size 0 e ≤ maxLen := grownCap_le_maxLen w _ _ e (by unfold maxLen; omega)
  have hbl : (byteCells b).length = b.size := by unfold byteCells; simp
  have hat : ∀ (j : Nat) (x : Value), (byteCells b)[j]? = some x → (Lib.bytesCells w e b)[j]? = some x := fun j x hx => by
    have hlt := (List.getElem?_eq_some_iff.1 hx).1
    unfold Lib.bytesCells
    rw [Array.getElem?_append_left (by simpa [hbl] using hlt)]
    unfold byteCells at hx
    simpa using hx
  have hcl : (Lib.bytesCells w e b).size = grownCap w b.size 0 e := by
    unfold Lib.bytesCells
    simp
    show b.size + _ = _
    omega
  generalize grownCap w b.size 0 e = nc at *
  generalize Lib.bytesCells w e b = cs at *
  have hR := h.drew.newRoomM (byteCells b) cs e cs.size (cs.size + 1) (by rw [hbl, hcl]; exact hge) (Nat.le_refl _) hat
  have hlen : (bytesE b.data.toList).length = b.size := by unfold bytesE; simp
  unfold Oper.wp
  rw [hrun]
  refine ⟨_, cls, hR.puts (fits_dst hf) (b := .sl 1 (bytesE b.data.toList) none .no) ?_ (.none _ rfl) (fun _ => rfl), ?_⟩
  · rw [← hlen]
    have hone : ∀ i, i < b.size → ∃ q : Nat, (byteCells b)[i]? = some (.int .u8 q) := fun i hi => by
      unfold byteCells
      rw [List.getElem?_map, List.getElem?_eq_getElem (by simpa using hi)]
      exact ⟨_, rfl⟩
    refine .sl 1 _ none .no _ _ nc (fun i _ => (byteCells b).getD i undef) rfl ⟨fun h => (by cases h), fun h => (by cases h), fun h => (by cases h)⟩ (fun e he => by unfold bytesE at he; obtain ⟨q, _, rfl⟩ := List.mem_map.1 he; rfl) (by rw [hlen]; exact hge) hcm (fun h => by cases h) (fun _ => ⟨w.heap.size, 0, rfl, fun i j hi hj => ?_⟩) (fun i e he j c hj => ?_) (fun i j hi hj => ?_)
    · have hj0 : j = 0 := by omega
      subst hj0
      obtain ⟨q, hq⟩ := hone i (by rw [← hlen]; exact hi)
      unfold Ghost.cell
      rw [if_neg (by have := h.ok.size; show ¬ w.heap.size < G.w0.heap.size; omega)]
      show (if w.heap.size = w.heap.size then _ else _ : Option Buf).bind _ = _
      rw [if_pos rfl]
      show (byteCells b)[0 + i * 1 + 0]? = _
      rw [show 0 + i * 1 + 0 = i by omega, hq, List.getD_eq_getElem?_getD, hq]; rfl
    · unfold bytesE at he
      rw [List.getElem?_map] at he
      cases hq : b.data.toList[i]? with
      | none => rw [hq] at he; cases he
      | some q =>
        rw [hq] at he
        injection he with he
        subst he
        rcases j with _ | j
        · simp at hj; subst hj
          have hil := (List.getElem?_eq_some_iff.1 hq).1
          have := byteCells_at b.data.toList i hil
          rw [show strB b.data.toList = b from rfl] at this
          rw [this, List.getD_eq_getElem?_getD, hq]
          exact .v _
        · simp at hj
    · obtain ⟨q, hq⟩ := hone i (by rw [← hlen]; exact hi)
      rw [List.getD_eq_getElem?_getD, hq]; rfl
  · exact ⟨Ext.newBuf h.drew.ok _, [], puts_wr _ _ _ _, fun i _ _ => rfl⟩
end
end Go.Proofs.Ytdfocmmajngelaa.Ax
namespace Go.Proofs.Ytdfocmmajngelaa.Ax
open Go.RowKit Go By

/-- A function's frame, or a round's. -/
def Fr (r : Option Nat) : Fence := { Fence.wide with round := r }
section
variable {P : Program} {r : Option Nat} {n : Nat}
theorem callsIn_fr {f : FuncId} {args : Array Value} {w : World} {R : Ending → World → Prop} (h : Calls P f args w R) : CallsIn (Fr r) n P f args w R := (callsIn_wide (n := n)).2 h
theorem rowsIn_fr {row : String} {args : Array Value} {w : World} {R : Value → World → Prop} (h : Rows P row args w R) : RowsIn (Fr r) n P row args w R := fun c cs _ =>
  let ⟨v, w', hr, s⟩ := h c cs
  ⟨v, w', hr, stepsIn_wide.2 s⟩
theorem oper_in {o : Oper} {a : Act} {w : World} {next : Act → World → Prop} {Q : Exit → Act → World → Prop} (hd : ∀ c, o.op ≠ .defer c) (h : o.wp P a w next Q) : o.wpIn (Fr r) n P a w next Q := by
  refine ⟨fun _ _ => trivial, ?_⟩
  rw [Oper.semAt_eq _ _ _ hd]
  unfold Oper.wp at h
  revert h
  cases hr : (execOp a.eval o).run P w with
  | ok x w' =>
    cases x <;> intro h <;> simp only [Oper.upon, Oper.uponIn] at h ⊢
    all_goals first
      | exact h
      | exact ⟨fun hh => (by cases hh), callsIn_fr h⟩
      | exact ⟨fun hh => (by cases hh), rowsIn_fr h⟩
  | halt x w' => cases x <;> intro h <;> simp only [Oper.upon, Oper.uponIn] at h ⊢ <;> exact h
theorem wpAny_in {md : Region.Mode} {ops : Array Oper} {Q : Exit → Act → World → Prop} (hq : ∀ a w, ¬ Q .outgrown a w) (hd : ∀ (i : Nat) (o : Oper), ops[i]? = some o → ∀ c, o.op ≠ .defer c) : ∀ (fuel : Nat) (listed : Array Bool) (a : Act) (w : World), wpAny P md ops (NoPanic Q) fuel listed a w → wpAnyIn (Fr r) n P md ops (NoPanic Q) fuel listed a w
  | 0, _, _, _, h => h
  | fuel + 1, listed, a, w, h => by
    refine ⟨h.1, fun i hi => ?_⟩
    have h2 := h.2 i hi
    unfold wpOp at h2
    unfold wpOpIn
    cases ho : ops[i]? with
    | none => rw [ho] at h2; exact wpAny_in hq hd fuel _ _ _ h2
    | some o =>
      rw [ho] at h2
      dsimp only at h2 ⊢
      split
      · rename_i hw
        rw [if_pos hw] at h2
        rcases h2 with h2 | ⟨_, h2⟩
        · exact Oper.wpIn_mono (fun a w hh => wpAny_in hq hd fuel _ _ _ hh) (oper_in (hd i o ho) h2)
        · obtain ⟨a', w', h3⟩ := h2
          exact absurd h3 (hq a' w')
      · rename_i hw
        rw [if_neg hw] at h2
        exact ⟨fun _ _ => trivial, wpAny_in hq hd fuel _ _ _ h2⟩

/-! ### What a loop over a function hands over -/
/-- Called with these values, over variables that hold this, it answers that, and leaves the variables so. -/
def YContract (P : Program) (i : Nat) (r : Loop) (c : Code) (slots args : List AV) (h : List (List AV)) (res : AV) (h' : List (List AV)) (wr : List Nat) : Prop :=
  ∀ (G : Ghost) (w : World) (vs : List Value) (cls : Nat → Id) (b : Nat), Sees G (.yld i r c slots) (.func (.yield b) #[] #[]) → WorldOk G w → SeesH G h → SeesL G args vs →
    (∀ (i : Nat) (x : AV), args[i]? = some x → OwnAt G (fun b c => cls b = c) x (vs.getD i undef) ∧ ∀ c, x.idOf = some c → c = .arg i) → OwnH G (fun b c => cls b = c) h →
    YieldAt (Fr none) 0 P b vs.toArray w fun e w' => ∃ v G' cls', e = .returned v ∧ After G (Touched G args vs h) res h' wr v G' cls' w'
def xyield (P : Program) (i : Nat) (r : Loop) (c : Code) (slots args : List AV) (s : St) (d : Option Nat) (K : St → List Nat → Prop) : Prop :=
  ∃ bs res h' wr, YContract P i r c slots bs s.heap res h' wr ∧ fitL 0 args bs ∧ (idsOf (handL args bs)).Nodup ∧ K (s.called (handL args bs) d res h' wr) []
/-- From any place that is s the operation leads to one that is s', in a function's frame, or a round's. -/
def OpSIn (P : Program) (C : Ctx) (N : Nat) (rr : Option Nat) (s s' : St) (o : Oper) (Q : Exit → Act → World → Prop) : Prop :=
  ∀ (G : Ghost) (cls : Nat → Id) (a : Act) (w : World), Rel C N G cls s a w → o.wpIn (Fr rr) 0 P a w (fun a' w' => ∃ G' cls', Rel C N G' cls' s' a' w' ∧ Stays G G' s s') Q
end
section
variable {P : Program} {C : Ctx} {N : Nat} {rr : Option Nat} {s : St} {Q : Exit → Act → World → Prop}
theorem OpS.inside {s' : St} {o : Oper} (hd : ∀ c, o.op ≠ .defer c) (h : OpS P C N s s' o Q) : OpSIn P C N rr s s' o Q := fun G cls a w hR => oper_in hd (h G cls a w hR)
theorem roundIn_fr {n l : Nat} {f : FuncId} {tmps : Array Value} {assign body : Code} {w : World} {R : Ending → World → Prop} (h : RoundIn (Fr none) n P l f tmps assign body w R) : RoundIn (Fr rr) n P l f tmps assign body w R := h
theorem yieldAt_mono {b : Nat} {vs : Array Value} {w : World} {R R' : Ending → World → Prop} (hh : ∀ e w', R e w' → R' e w') (h : YieldAt (Fr none) 0 P b vs w R) : YieldAt (Fr none) 0 P b vs w R' := by
  obtain ⟨fn, tmps, assign, body, hy, hr⟩ := h
  exact ⟨fn, tmps, assign, body, hy, hr.mono hh⟩
theorem Sees.inv_yld {G : Ghost} {i : Nat} {r : Loop} {c : Code} {slots : List AV} {y : Value} (h : Sees G (.yld i r c slots) y) : ∃ b, y = .func (.yield b) #[] #[] ∧ G.boxes[i]? = some b ∧ G.kinds b = some (.loop r c) := by
  cases h with | yld _ b _ _ _ h hk hl hs => exact ⟨b, rfl, h, hk⟩
theorem eff_yield (o : Oper) (y : Operand) (args : Array Operand) (ts : Array TypeId) (ho : o.op = .call { callee := .value y, args := args, argTypes := ts }) (i : Nat) (r : Loop) (c : Code) (slots : List AV) (hg : s.get y = .yld i r c slots) (K : St → List Nat → Prop) (hx : xyield P i r c slots (args.toList.map s.get) s o.dst K)
    (hf : fitsAll N o = true) : ∃ s' l, K s' l ∧ OpSIn P C N rr s s' o Q := by
  obtain ⟨bs, res, h', wr, hC, hfit, hnd, hK⟩ := hx
  refine ⟨_, _, hK, fun G cls a w h => ?_⟩
  have hfm : ∀ z, z ∈ args.toList → fitsO N z = true := fun z hz => fits_mem hf (by rw [ho]; cases y <;> simp [Op.operands, Call.operands] <;> first | (exact .inr (by simpa using hz)) | (simpa using hz))
  have hfy : fitsO N y = true := fits_mem hf (by rw [ho]; simp [Op.operands, Call.operands])
  have hgy := h.get hfy
  rw [hg] at hgy
  obtain ⟨b, hv, _⟩ := hgy.inv_yld
  rw [hv] at hgy
  have hsl := sees_list (G := G) s.get a.eval args.toList fun z hz => h.get (hfm z hz)
  have hown : ∀ (i : Nat) (x : AV), (args.toList.map s.get)[i]? = some x → OwnAt G (Own C cls) x ((args.toList.map a.eval).getD i undef) := fun i x hx => by
    rw [List.getD_eq_getElem?_getD]
    rw [List.getElem?_map] at hx ⊢
    cases hz : args.toList[i]? with
    | none => rw [hz] at hx; cases hx
    | some z =>
      rw [hz] at hx
      injection hx with hx
      subst hx
      exact h.getOwn (hfm z (List.mem_of_getElem? hz))
  obtain ⟨e1, e2⟩ := hand_sees hfit hsl hown
  have key := call_core (D := fun R => YieldAt (Fr none) 0 P b (args.toList.map a.eval).toArray w R) (fun _ _ hh hc => yieldAt_mono hh hc) h e1 e2 hnd
    (fun cls0 h1 h2 h3 => by
      rw [hand_canon hfit] at h1 h2 ⊢
      exact hC G w _ cls0 b hgy h.ok h.heap h1 h2 h3) o.dst (fits_dst hf)
  obtain ⟨fn, tmps, assign, body, hy, hr⟩ := key
  have hrun : (execOp a.eval o).run P w = .ok (.round b fn tmps assign body) w := by
    have e : (#[] : Array Value) ++ args.map a.eval = (args.toList.map a.eval).toArray := by apply Array.ext'; simp
    simp only [execOp, ho, resolve, hv, Deferred.ofValue, Sem.run_bind, Sem.run_pure, Result.andThen_ok, invoke]
    rw [e]
    exact hy
  refine ⟨fun _ _ => trivial, ?_⟩
  rw [Oper.semAt_eq _ _ _ (fun c => by rw [ho]; simp), hrun]
  refine ⟨fun hh => (by cases hh), ?_⟩
  refine (roundIn_fr hr).mono fun e w' he => ?_
  obtain ⟨v, rfl, G', cls', hR, hS⟩ := he
  exact ⟨G', cls', hR, hS⟩
end
end Go.Proofs.Ytdfocmmajngelaa.Ax
