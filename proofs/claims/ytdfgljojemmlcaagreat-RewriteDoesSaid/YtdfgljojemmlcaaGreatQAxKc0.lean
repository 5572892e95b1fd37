import Derived.Test.YtdfgljojemmlcaaGreatQAxWo
set_option linter.unusedSimpArgs false
set_option linter.unusedVariables false
open List renaming getElem?_append_left -> Q0, getElem?_eq_some_iff -> Q1, getElem?_append_right -> Q2, flatten_cons -> Q4, eq_nil_of_length_eq_zero -> Q5, mem_cons_of_mem -> Q6, length_pos_iff -> Q7, getElem?_range -> Q8, mem_cons_self -> Ra, getElem?_map -> Rc, length_cons -> Re, mem_map -> Rh, range -> Ri
open Nat renaming le_refl -> Q3, zero_add -> Q9, succ_mul -> Rb, zero_le -> Rd, lt_or_ge -> Rf
namespace Go.Proofs.YtdfgljojemmlcaaGreat.Ax
open Go.RowKit Go By
set_option maxRecDepth 10000
section
variable {P : Program} {f : FuncId} {args : List AV} {h : List (List AV)}
theorem nh (hE : fJ P f = true) {k n : Nat} {cs : List AV} (hid : ∀ c ∈ cs, c.idOf = none)
  (hc : ∀ (G : Ghost) (w : World) (vs : List Value), WorldOk G w -> fW G h -> SeesL G args vs -> Calls P f vs.toArray w fun e w' => ∃ (g cap : Nat) (us : List Value), e = .returned (.slice (some ⟨g, 0, none⟩) n cap) /\ w.heap.size <= g /\ g < w'.heap.size /\ n <= cap /\ (cap <= maxLen /\ ∀ j, j < cap * k -> (w'.cell? ⟨g, j, none⟩).isSome = true /\ w'.frozen? ⟨g, j, none⟩ = false) /\ us.length = cs.length /\ (∀ x ∈ us, x.oneCell' = true) /\
   (∀ (j : Nat) (c : AV), cs[j]? = some c -> Sees G c (us.getD j undef)) /\ (∀ (j : Nat) (x : Value), us[j]? = some x -> w'.cell? ⟨g, j, none⟩ = some x /\ w'.frozen? ⟨g, j, none⟩ = false) /\ Below w.heap.size w w') :
  Contract P f args h (.bsl h.length 0 k n) (h ++ [cs]) [] := by
 refine ⟨iX hE, fun G w vs cls hW hS hvs hown hoh => ?_⟩
 refine (hc G w vs hW hS hvs).mono fun e w' he => ?_
 obtain ⟨g, cap, us, rfl, hg, hgw, hncap, hmax, hlen, hone, hsee, hcells, hb⟩ := he
 have hbelow : Below G.w0.heap.size G.w0 w' := hW.below.trans (hb.mono hW.size)
 have hcell : ∀ (b j : Nat), b < w.heap.size -> w'.cell? ⟨b, j, none⟩ = w.cell? ⟨b, j, none⟩ /\ w'.frozen? ⟨b, j, none⟩ = w.frozen? ⟨b, j, none⟩ := fun b j hlt =>
  ⟨World.cell?_of_block (w := w) (a := ⟨b, j, none⟩) (hb.block b hlt), World.frozen?_of_block (w := w) (a := ⟨b, j, none⟩) (hb.block b hlt)⟩
 have hfresh : G.bufs g = none := by
  cases hB : G.bufs g with
  | none => rfl
  | some B => have := (hW.buf g B hB).2.1; omega
 have hE' : Ext G (G.newRoom g us (cap * k)) := Ext.newRoom (fun i hi => by have := (hW.boxlt hi).1; omega) us _
 have hl0 : h.length = G.boxv.length := hS.1
 have hlb : G.boxv.length = G.boxes.length := hW.len
 have at_ : ∀ (i : Nat) (ds : List AV) (vs : List Value), (h ++ [cs])[i]? = some ds -> (G.boxv ++ [us])[i]? = some vs -> (h[i]? = some ds /\ G.boxv[i]? = some vs) \/ (i = h.length /\ ds = cs /\ vs = us) := fun i ds vs e1 e2 => by
  by_cases hi : i < h.length
  ·rw [Q0 hi] at e1
   rw [Q0 (by omega)] at e2
   exact .inl ⟨e1, e2⟩
  ·have hi2 : i = h.length := by
    have := (Q1.1 e1).1
    simp at this; omega
   subst hi2
   simp at e1
   rw [hl0] at e2
   simp at e2
   exact .inr ⟨rfl, e1.symm, e2.symm⟩
 have hW' : WorldOk (G.newRoom g us (cap * k)) w' := by
  refine ⟨hbelow, fun b B hB => ?_, fun i b vs2 h1 h2 => ?_, ⟨hW.nodup.snoc hW.len (fun i hi => by have := (hW.boxlt hi).1; omega) us, hW.dom⟩, by simp [Ghost.newRoom, hW.len], hW.obj.newRoom (fM hb) hW.len hg hmax.2⟩
  ·obtain ⟨h1, h2, h3, h4, h5⟩ := hW.buf b B hB
   exact ⟨h1, by have := hb.size; omega, h3, fun j hj => by rw [(hcell b j h2).1, (hcell b j h2).2]; exact h4 j hj, fun j x hx => by rw [(hcell b j h2).1]; exact h5 j x hx⟩
  ·have h1' : (G.boxes ++ [g])[i]? = some b := h1
   have h2' : (G.boxv ++ [us])[i]? = some vs2 := h2
   by_cases hi : i < G.boxes.length
   ·rw [Q0 hi] at h1'
    rw [Q0 (by omega)] at h2'
    obtain ⟨h3, h4, h5, h6⟩ := hW.box i b vs2 h1' h2'
    refine ⟨h3, by have := hb.size; omega, h5, fun j x hx hkn => ?_⟩
    have hkn' : (if b = g then (none, cap * k) else G.kr b).1 = none := hkn
    rw [if_neg (by omega)] at hkn'
    rw [Ghost.newRoom_old hi, (hcell b _ h4).1, (hcell b _ h4).2]; exact h6 j x hx hkn'
   ·have hi2 : i = G.boxes.length := by
     have := (Q1.1 h1').1
     simp at this; omega
    subst hi2
    simp at h1'
    rw [<- hlb] at h2'
    simp at h2'
    subst h1' h2'
    exact ⟨by have := hW.size; show G.w0.heap.size <= _; omega, hgw, fun _ => hfresh, fun j x hx _ => by rw [Ghost.newRoom_new, Q9]; exact hcells j x hx⟩
 refine ⟨_, G.newRoom g us (cap * k), cls, rfl, hE', hW', ⟨by simp [Ghost.newRoom, hS.1], fun i ds vs2 h1 h2 => ?_⟩, fun i ds vs2 h1 h2 j c hj => ?_, ?_, trivial, fun c hc => (by simp [AV.idOf] at hc), fun i hi _ => ?_, fun b B hB _ => hB⟩
 ·rcases at_ i ds vs2 h1 h2 with ⟨e1, e2⟩ | ⟨rfl, rfl, rfl⟩
  ·obtain ⟨h3, h4, h5⟩ := hS.2 i ds vs2 e1 e2
   exact ⟨h3, h4, fun j c hj => (h5 j c hj).ext hE'⟩
  ·exact ⟨hlen, hone, fun j c hj => (hsee j c hj).ext hE'⟩
 ·rcases at_ i ds vs2 h1 h2 with ⟨e1, e2⟩ | ⟨rfl, rfl, rfl⟩
  ·obtain ⟨h3, h4⟩ := hoh i ds vs2 e1 e2 j c hj
   exact ⟨h3.move fun b y B hB _ hbB hcl => ⟨hbB, hcl, .inr (.inr ⟨i, ds, vs2, j, c, e1, e2, hj, hB⟩)⟩, h4⟩
  ·have hn := hid c (List.mem_of_getElem? hj)
   exact ⟨.none _ hn, fun x hx => by rw [hn] at hx; cases hx⟩
 ·have hbn : (G.newRoom g us (cap * k)).base h.length = 0 := by rw [hl0, hlb]; exact Ghost.newRoom_new
  refine Sees.bsl (G := G.newRoom g us (cap * k)) h.length 0 k n g cap ⟨?_, ?_⟩ hncap ⟨hmax.1, ?_⟩ 0 (.inr (by rw [hbn]))
  ·show (G.boxes ++ [g])[h.length]? = some g
   rw [hl0, hlb]; simp
  ·show (if g = g then (none, cap * k) else G.kr g : Option Kind × Nat).1 = none
   rw [if_pos rfl]
  ·rw [hbn]
   show _ <= (if g = g then (none, cap * k) else G.kr g : Option Kind × Nat).2
   rw [if_pos rfl, Q9]
   exact Q3 _
 ·show (G.boxv ++ [us])[i]? = _
  rw [Q0 hi]
theorem nS (hE : fJ P f = true) {k n : Nat} {cs : List AV} (hid : ∀ c ∈ cs, c.idOf = none)
  (hc : ∀ (G : Ghost) (w : World) (vs : List Value), WorldOk G w -> SeesL G args vs -> Calls P f vs.toArray w fun e w' => ∃ (g cap : Nat) (us : List Value), e = .returned (.slice (some ⟨g, 0, none⟩) n cap) /\ w.heap.size <= g /\ g < w'.heap.size /\ n <= cap /\ (cap <= maxLen /\ ∀ j, j < cap * k -> (w'.cell? ⟨g, j, none⟩).isSome = true /\ w'.frozen? ⟨g, j, none⟩ = false) /\ us.length = cs.length /\ (∀ x ∈ us, x.oneCell' = true) /\
   (∀ (j : Nat) (c : AV), cs[j]? = some c -> Sees G c (us.getD j undef)) /\ (∀ (j : Nat) (x : Value), us[j]? = some x -> w'.cell? ⟨g, j, none⟩ = some x /\ w'.frozen? ⟨g, j, none⟩ = false) /\ Below w.heap.size w w') :
  Contract P f args h (.bsl h.length 0 k n) (h ++ [cs]) [] := nh hE hid fun G w vs hW _ hvs => hc G w vs hW hvs
theorem lW {pre post : List AV} {k : Nat} {es : List (List AV)} {room : Room} {r : AV} {h' : List (List AV)} {wr : List Nat} (h1 : es = [] -> Contract P f (pre ++ .sl k es (some true) room :: post) h r h' wr) (h2 : Contract P f (pre ++ .sl k es (some false) room :: post) h r h' wr) :
  Contract P f (pre ++ .sl k es none room :: post) h r h' wr := by
 refine ⟨h2.1, fun G w vs cls hW hS hvs hown hoh => ?_⟩
 have hx := hvs.2 pre.length (.sl k es none room) (by simp)
 have key : ∀ nul : Option Bool, Sees G (.sl k es nul room) (vs.getD pre.length undef) -> Contract P f (pre ++ .sl k es nul room :: post) h r h' wr -> Calls P f vs.toArray w fun e w' => ∃ v G' cls', e = .returned v /\ After G (aS G (pre ++ .sl k es none room :: post) vs h) r h' wr v G' cls' w' := fun nul hs hc => by
  have get_ : ∀ (i : Nat) (x : AV), (pre ++ .sl k es nul room :: post)[i]? = some x -> (i = pre.length /\ x = .sl k es nul room /\ (pre ++ .sl k es none room :: post)[i]? = some (.sl k es none room)) \/ (pre ++ .sl k es none room :: post)[i]? = some x := fun i x hi => by
   by_cases e : i = pre.length
   ·subst e
    simp at hi
    exact .inl ⟨rfl, hi.symm, by simp⟩
   ·right
    rcases Rf i pre.length with h3 | h3
    ·rw [Q0 h3] at hi ⊢; exact hi
    ·rw [Q2 h3] at hi ⊢
     obtain ⟨d, hd⟩ : ∃ d, i - pre.length = d + 1 := ⟨i - pre.length - 1, by omega⟩
     rw [hd] at hi ⊢
     simpa using hi
  have hT : aS G (pre ++ .sl k es nul room :: post) vs h = aS G (pre ++ .sl k es none room :: post) vs h := by
   have one : ∀ n1 n2 : Option Bool, ∀ b, aS G (pre ++ .sl k es n1 room :: post) vs h b -> aS G (pre ++ .sl k es n2 room :: post) vs h b := fun n1 n2 b ht => by
    rcases ht with ⟨i, x, hi, ho⟩ | ht
    ·left
     by_cases e : i = pre.length
     ·subst e
      simp at hi
      subst hi
      exact ⟨pre.length, .sl k es n2 room, by simp, by cases room <;> exact ho⟩
     ·refine ⟨i, x, ?_, ho⟩
      rcases Rf i pre.length with h3 | h3
      ·rw [Q0 h3] at hi ⊢; exact hi
      ·rw [Q2 h3] at hi ⊢
       obtain ⟨d, hd⟩ : ∃ d, i - pre.length = d + 1 := ⟨i - pre.length - 1, by omega⟩
       rw [hd] at hi ⊢
       simpa using hi
    ·exact .inr ht
   funext b
   exact propext ⟨one _ _ b, one _ _ b⟩
  have := hc.2 G w vs cls hW hS ⟨by have := hvs.1; simpa using this, fun i x hi => by
   rcases get_ i x hi with ⟨rfl, rfl, _⟩ | h4
   ·exact hs
   ·exact hvs.2 i x h4⟩ (fun i x hi => by
   rcases get_ i x hi with ⟨rfl, rfl, h4⟩ | h4
   ·obtain ⟨h5, h6⟩ := hown _ _ h4
    refine ⟨?_, fun c hc => h6 c (by cases room <;> exact hc)⟩
    cases room <;> first | exact h5 | (cases hv : vs.getD pre.length undef <;> rw [hv] at h5 <;> exact h5)
   ·exact hown i x h4) hoh
  rwa [hT] at this
 cases hv : vs.getD pre.length undef with
 | slice a len cap =>
  rw [hv] at hx
  cases hx with
  | sl _ _ _ _ _ _ _ u hlen hn hk hcap hm hr hc hs ho =>
   cases ha : a with
   | none =>
    subst ha
    have he : es = [] := Q5 (by have := (hn.1 rfl).2; omega)
    exact key (some true) (by rw [hv]; exact .sl k es (some true) room none len cap u hlen ⟨hn.1, fun _ => rfl, fun h => by cases h⟩ hk hcap hm hr hc hs ho) (h1 he)
   | some ad =>
    subst ha
    exact key (some false) (by rw [hv]; exact .sl k es (some false) room (some ad) len cap u hlen ⟨hn.1, fun h => (by cases h), fun _ h => by cases h⟩ hk hcap hm hr hc hs ho) h2
 | _ => rw [hv] at hx; cases hx
end
theorem nO {P : Program} {f : FuncId} {args : List AV} {h : List (List AV)} (hE : fJ P f = true) {r : AV} (hr : r.idOf = none) (hc : ∀ (G : Ghost) (w : World) (vs : List Value), WorldOk G w -> fW G h -> SeesL G args vs -> Calls P f vs.toArray w fun e w' => ∃ v, e = .returned v /\ Sees G r v /\ Below w.heap.size w w') : Contract P f args h r h [] := by
 refine ⟨iX hE, fun G w vs cls hW hS hvs hown hoh => ?_⟩
 refine (hc G w vs hW hS hvs).mono fun e w' he => ?_
 obtain ⟨v, rfl, hv, hb⟩ := he
 have hcell : ∀ (b j : Nat), b < w.heap.size -> w'.cell? ⟨b, j, none⟩ = w.cell? ⟨b, j, none⟩ /\ w'.frozen? ⟨b, j, none⟩ = w.frozen? ⟨b, j, none⟩ := fun b j hlt =>
  ⟨World.cell?_of_block (w := w) (a := ⟨b, j, none⟩) (hb.block b hlt), World.frozen?_of_block (w := w) (a := ⟨b, j, none⟩) (hb.block b hlt)⟩
 have hW' : WorldOk G w' := by
  refine ⟨hW.below.trans (hb.mono hW.size), fun b B hB => ?_, fun i b us h1 h2 => ?_, hW.nodup2, hW.len, hW.objK (fM hb)⟩
  ·obtain ⟨h1, h2, h3, h4, h5⟩ := hW.buf b B hB
   exact ⟨h1, by have := hb.size; omega, h3, fun j hj => by rw [(hcell b j h2).1, (hcell b j h2).2]; exact h4 j hj, fun j x hx => by rw [(hcell b j h2).1]; exact h5 j x hx⟩
  ·obtain ⟨h3, h4, h5, h6⟩ := hW.box i b us h1 h2
   exact ⟨h3, by have := hb.size; omega, h5, fun j x hx => by rw [(hcell b _ h4).1, (hcell b _ h4).2]; exact h6 j x hx⟩
 refine ⟨v, G, cls, rfl, Ext.refl G, hW', hS, fun i cs us h1 h2 j c hj => ?_, hv, .none _ hr, fun c hc => (by rw [hr] at hc; cases hc), fun _ _ _ => rfl, fun _ _ hb _ => hb⟩
 obtain ⟨h3, h4⟩ := hoh i cs us h1 h2 j c hj
 exact ⟨h3.imp2 fun b y B hB _ _ hcl => ⟨hcl, .inr (.inr ⟨i, cs, us, j, c, h1, h2, hj, hB⟩)⟩, h4⟩
theorem gh {P : Program} {f : FuncId} {args : List AV} {h : List (List AV)} (hE : fJ P f = true) {r : AV} (hr : r.idOf = none) (hc : ∀ (G : Ghost) (w : World) (vs : List Value), WorldOk G w -> SeesL G args vs -> Calls P f vs.toArray w fun e w' => ∃ v, e = .returned v /\ Sees G r v /\ Below w.heap.size w w') : Contract P f args h r h [] := nO hE hr fun G w vs hW _ hvs => hc G w vs hW hvs
end Go.Proofs.YtdfgljojemmlcaaGreat.Ax
namespace Go.Proofs.YtdfgljojemmlcaaGreat.Ax
set_option maxRecDepth 100000
open Go.RowKit Go By Go.Proofs.YtdfgljojemmlcaaGreat.Nm
set_option maxRecDepth 10000
theorem me {P : Program} {t : TypeId} {z : Value} {k b : Nat} (h : (P.info? t).map (fun i => (i.zero, i.size, i.bytes)) = some (some z, k, b)) : ∃ i, P.info? t = some i /\ i.zero = some z /\ i.size = k /\ i.bytes = b := by
 cases hi : P.info? t with
 | none => rw [hi] at h; cases h
 | some i => rw [hi] at h; injection h with h; injection h with h1 h2; injection h2 with h2 h3; exact ⟨i, rfl, h1, h2, h3⟩
theorem yq {G : Ghost} {k : Nat} (hk0 : 0 < k) {es : List (List AV)} {nul : Option Bool} {room : Room} {x : Value} (h : Sees G (.sl k es nul room) x) (hne : es ≠ []) {w : World} (hW : WorldOk G w) :
  ∃ (b o cap : Nat) (us : List Value), x = .slice (some ⟨b, o, none⟩) es.length cap /\ b < w.heap.size /\ us.length = es.length * k /\ es.flatten.length = es.length * k /\ (∀ x ∈ us, x.oneCell' = true) /\ (∀ (j : Nat) (u : Value), us[j]? = some u -> w.cell? ⟨b, o + j, none⟩ = some u) /\ ∀ (j : Nat) (c : AV), es.flatten[j]? = some c -> Sees G c (us.getD j undef) := by
 cases h with
 | sl _ _ _ _ a len cap u hlen hn hk hcap hm hr hc hs h1 =>
  have hpos : 0 < es.length := Q7.2 hne
  obtain ⟨b, o, rfl, hcell⟩ := hc hpos
  subst hlen
  have hfl : es.flatten.length = es.length * k := by
   have key : ∀ l : List (List AV), (∀ e ∈ l, e.length = k) -> l.flatten.length = l.length * k := fun l => by
    induction l with
    | nil => intro _; simp
    | cons x l ih => intro hl; rw [Q4, List.length_append, ih fun e he => hl e (Q6 _ he), hl x (Ra ..), Re, Rb]; omega
   exact key es hk
  have at_ : ∀ j, j < es.length * k -> j / k < es.length /\ j % k < k /\ j / k * k + j % k = j := fun j hj => ⟨(Nat.div_lt_iff_lt_mul hk0).2 hj, Nat.mod_lt _ hk0, by rw [Nat.mul_comm]; exact Nat.div_add_mod j k⟩
  have cellj : ∀ j, j < es.length * k -> w.cell? ⟨b, o + j, none⟩ = some (u (j / k) (j % k)) := fun j hj => by
   obtain ⟨h2, h3, h4⟩ := at_ j hj
   have := hW.cell (hcell _ _ h2 h3)
   rwa [Nat.add_assoc, h4] at this
  refine ⟨b, o, cap, (Ri (es.length * k)).map fun j => u (j / k) (j % k), rfl, ?_, by simp, hfl, fun x hx => ?_, fun j y hy => ?_, fun j c hj => ?_⟩
  ·exact lg (cellj 0 (Nat.mul_pos hpos hk0))
  ·obtain ⟨j, hj, rfl⟩ := Rh.1 hx
   obtain ⟨h2, h3, _⟩ := at_ j (List.mem_range.1 hj)
   exact h1 _ _ h2 h3
  ·rw [Rc] at hy
   cases hj : (Ri (es.length * k))[j]? with
   | none => rw [hj] at hy; cases hy
   | some i =>
    rw [hj] at hy
    injection hy with hy
    have hlt := (Q1.1 hj).1
    simp at hlt
    rw [Q8 hlt] at hj
    injection hj with hj
    subst hj hy
    exact cellj j hlt
  ·have hlt : j < es.length * k := by rw [<- hfl]; exact (Q1.1 hj).1
   obtain ⟨h2, h3, h4⟩ := at_ j hlt
   rw [List.getD_eq_getElem?_getD, Rc, Q8 hlt]
   have key : ∀ (l : List (List AV)) (p q : Nat) (c : AV), (∀ e ∈ l, e.length = k) -> q < k -> l.flatten[p * k + q]? = some c -> ∃ e, l[p]? = some e /\ e[q]? = some c := fun l => by
    induction l with
    | nil => intro p q c _ _ hh; simp at hh
    | cons x l ih =>
     intro p q c hl hq hh
     have hx := hl x (Ra ..)
     rw [Q4] at hh
     cases p with
     | zero => rw [Nat.zero_mul, Q9, Q0 (by omega)] at hh; exact ⟨x, rfl, hh⟩
     | succ p =>
      rw [Q2 (by rw [hx, Rb]; omega), hx, show (p + 1) * k + q - k = p * k + q by rw [Rb]; omega] at hh
      obtain ⟨e, h5, h6⟩ := ih p q c (fun e he => hl e (Q6 _ he)) hq hh
      exact ⟨e, by simpa using h5, h6⟩
   rw [<- h4] at hj
   obtain ⟨e, h5, h6⟩ := key es _ _ c hk h3 hj
   exact hs _ e h5 _ c h6
theorem qU : (Tryz.prog.info? 101).map (fun i => (i.zero, i.size, i.bytes)) = some (some (.agg #[.bool false, .slice none 0 0]), 2, 32) := by kernel_rfl
theorem pb (b o n c : Nat) (us : List Value) (w : World) (hl : us.length = n * 2) (hc : ∀ (j : Nat) (u : Value), us[j]? = some u -> w.cell? ⟨b, o + j, none⟩ = some u) (hb : b < w.heap.size) (h1 : ∀ u ∈ us, u.oneCell' = true) (hn : n <= 1000000000) :
  Calls Tryz.prog 91 #[.slice (some ⟨b, o, none⟩) n c] w fun e w' => ∃ v, e = .returned v /\ w'.ownsRow w.heap.size 101 2 v n us /\ Below w.heap.size w w' := by
 obtain ⟨i0, hi, hz0, hz1, hz2⟩ := me qU
 have heq := fun W : World => Lib.run_eql_slice_nil (P := Tryz.prog) W 35 101 (some ⟨b, o, none⟩) n c 0 0 Tryz.underlying35
 have HX0 : ∀ (j : Nat) (u : Value), us[j]? = some u -> (w.alloc (.cells #[] 101)).cell? ((⟨b, o, none⟩ : Addr).add j) = some u := fun j u hu => by
  rw [add_plain, (az w _ (o + j) hb).1]; exact hc j u hu
 have HX := Lib.hid HX0
 have HL := Lib.hid hl
 have H1 := Lib.hid h1
 clear HX0 hc hl h1
 go_enter Tryz.func91, Tryz.ntmps91
 go_wp2_with (at_builtin; refine wpList_append_own_at (w := w.alloc (.cells #[] 101)) rfl _ _ 35 rfl w.heap.size 101 i0 (.agg #[.bool false, .slice none 0 0]) 2 32 Tryz.underlying35 hi hz0 hz1 hz2 rfl (by omega) _ 0 [] rfl ?c1 ⟨b, o, none⟩ n c us rfl HL.out HX.out H1.out ?c4 ?c5 ?c6 ?c7)
 case c1 => exact World.ownsRow_made w #[] 0 (Q3 _) (by simp [maxLen]) (by simp)
 case c4 => unfold maxLen; omega
 case c5 => omega
 case c6 => simp
 case c7 =>
  intro v' w' hown hg
  intros
  have HO := Lib.hid hown
  clear hown
  go_wp2
  go_ret
  refine ⟨v', rfl, by simpa using HO.out, ((Below.refl _ _).alloc (Q3 _) _).grown hg (by simp) (by simp [Value.ownBlock])⟩
theorem mO (ad : Addr) (c : Nat) (w : World) :
  Calls Tryz.prog 91 #[.slice (some ad) 0 c] w fun e w' => ∃ v, e = .returned v /\ w'.ownsRow w.heap.size 101 2 v 0 [] /\ Below w.heap.size w w' := by
 obtain ⟨i0, hi, hz0, hz1, hz2⟩ := me qU
 have heq := fun W : World => Lib.run_eql_slice_nil (P := Tryz.prog) W 35 101 (some ad) 0 c 0 0 Tryz.underlying35
 go_enter Tryz.func91, Tryz.ntmps91
 go_wp2_with (at_builtin; refine wpList_append_own_at (w := w.alloc (.cells #[] 101)) rfl _ _ 35 rfl w.heap.size 101 i0 (.agg #[.bool false, .slice none 0 0]) 2 32 Tryz.underlying35 hi hz0 hz1 hz2 rfl (by omega) _ 0 [] rfl ?c1 ad 0 c [] rfl (by simp) (by simp) (by simp) ?c4 ?c5 ?c6 ?c7)
 case c1 => exact World.ownsRow_made w #[] 0 (Q3 _) (by simp [maxLen]) (by simp)
 case c4 => unfold maxLen; omega
 case c5 => omega
 case c6 => simp
 case c7 =>
  intro v' w' hown hg
  intros
  have HO := Lib.hid hown
  clear hown
  go_wp2
  go_ret
  refine ⟨v', rfl, by simpa using HO.out, ((Below.refl _ _).alloc (Q3 _) _).grown hg (by simp) (by simp [Value.ownBlock])⟩
theorem pS (w : World) (c : Nat) : Calls Tryz.prog 91 #[.slice none 0 c] w fun e w' => e = .returned (.slice none 0 0) /\ w = w' := by
 have heq := fun W : World => Lib.run_eql_slice_nil (P := Tryz.prog) W 35 101 none 0 c 0 0 Tryz.underlying35
 go_enter Tryz.func91, Tryz.ntmps91
 go_wp2
 go_ret
 exact ⟨rfl, rfl⟩
theorem wO : (Tryz.prog.info? 5).map (fun i => (i.zero, i.size, i.bytes)) = some (some (.int .u8 0), 1, 1) := by kernel_rfl
theorem sx (b o n c : Nat) (us : List Value) (w : World) (hl : us.length = n * 1) (hc : ∀ (j : Nat) (u : Value), us[j]? = some u -> w.cell? ⟨b, o + j, none⟩ = some u) (hb : b < w.heap.size) (h1 : ∀ u ∈ us, u.oneCell' = true) (hn : n <= 140737488351232) :
  Calls Tryz.prog 92 #[.slice (some ⟨b, o, none⟩) n c] w fun e w' => ∃ v, e = .returned v /\ w'.ownsRow w.heap.size 5 1 v n us /\ Below w.heap.size w w' := by
 obtain ⟨i0, hi, hz0, hz1, hz2⟩ := me wO
 have heq := fun W : World => Lib.run_eql_slice_nil (P := Tryz.prog) W 52 5 (some ⟨b, o, none⟩) n c 0 0 Tryz.underlying52
 have HX0 : ∀ (j : Nat) (u : Value), us[j]? = some u -> (w.alloc (.cells #[] 5)).cell? ((⟨b, o, none⟩ : Addr).add j) = some u := fun j u hu => by
  rw [add_plain, (az w _ (o + j) hb).1]; exact hc j u hu
 have HX := Lib.hid HX0
 have HL := Lib.hid hl
 have H1 := Lib.hid h1
 clear HX0 hc hl h1
 go_enter Tryz.func92, Tryz.ntmps92
 go_wp2_with (at_builtin; refine wpList_append_own_at (w := w.alloc (.cells #[] 5)) rfl _ _ 52 rfl w.heap.size 5 i0 (.int .u8 0) 1 1 Tryz.underlying52 hi hz0 hz1 hz2 rfl (by omega) _ 0 [] rfl ?c1 ⟨b, o, none⟩ n c us rfl HL.out HX.out H1.out ?c4 ?c5 ?c6 ?c7)
 case c1 => exact World.ownsRow_made w #[] 0 (Q3 _) (by simp [maxLen]) (by simp)
 case c4 => unfold maxLen; omega
 case c5 => omega
 case c6 => simp
 case c7 =>
  intro v' w' hown hg
  intros
  have HO := Lib.hid hown
  clear hown
  go_wp2
  go_ret
  refine ⟨v', rfl, by simpa using HO.out, ((Below.refl _ _).alloc (Q3 _) _).grown hg (by simp) (by simp [Value.ownBlock])⟩
theorem pO (ad : Addr) (c : Nat) (w : World) :
  Calls Tryz.prog 92 #[.slice (some ad) 0 c] w fun e w' => ∃ v, e = .returned v /\ w'.ownsRow w.heap.size 5 1 v 0 [] /\ Below w.heap.size w w' := by
 obtain ⟨i0, hi, hz0, hz1, hz2⟩ := me wO
 have heq := fun W : World => Lib.run_eql_slice_nil (P := Tryz.prog) W 52 5 (some ad) 0 c 0 0 Tryz.underlying52
 go_enter Tryz.func92, Tryz.ntmps92
 go_wp2_with (at_builtin; refine wpList_append_own_at (w := w.alloc (.cells #[] 5)) rfl _ _ 52 rfl w.heap.size 5 i0 (.int .u8 0) 1 1 Tryz.underlying52 hi hz0 hz1 hz2 rfl (by omega) _ 0 [] rfl ?c1 ad 0 c [] rfl (by simp) (by simp) (by simp) ?c4 ?c5 ?c6 ?c7)
 case c1 => exact World.ownsRow_made w #[] 0 (Q3 _) (by simp [maxLen]) (by simp)
 case c4 => unfold maxLen; omega
 case c5 => omega
 case c6 => simp
 case c7 =>
  intro v' w' hown hg
  intros
  have HO := Lib.hid hown
  clear hown
  go_wp2
  go_ret
  refine ⟨v', rfl, by simpa using HO.out, ((Below.refl _ _).alloc (Q3 _) _).grown hg (by simp) (by simp [Value.ownBlock])⟩
theorem sR (w : World) (c : Nat) : Calls Tryz.prog 92 #[.slice none 0 c] w fun e w' => e = .returned (.slice none 0 0) /\ w = w' := by
 have heq := fun W : World => Lib.run_eql_slice_nil (P := Tryz.prog) W 52 5 none 0 c 0 0 Tryz.underlying52
 go_enter Tryz.func92, Tryz.ntmps92
 go_wp2
 go_ret
 exact ⟨rfl, rfl⟩
theorem sj (l : List Cl) (hne : l ≠ []) (hl : l.length <= 1000000000) (h : List (List AV)) : Contract Tryz.prog 91 [.sl 2 (ai aC l) none .no] h (.bsl h.length 0 2 l.length) (h ++ [(ai aC l).flatten]) [] := by
 refine nS (by kernel_rfl) (fun c hc => ?_) fun G w vs hW hvs => ?_
 ·obtain ⟨e, he, hce⟩ := List.mem_flatten.1 hc
  unfold ai at he
  obtain ⟨x, _, rfl⟩ := Rh.1 he
  simp [aC] at hce
  rcases hce with rfl | rfl <;> rfl
 ·obtain ⟨x, rfl, hx⟩ := hvs.one
  obtain ⟨b, o, cap, us, rfl, h1, h2, h3, h4, h5, h6⟩ := yq (by omega) hx (by simpa [ai] using hne) hW
  have hlen : (ai aC l).length = l.length := by simp
  rw [hlen] at h2 h3 ⊢
  refine (pb b o l.length cap us w h2 h5 h1 h4 hl).mono fun e w' he => ?_
  obtain ⟨v, rfl, ⟨_, hown⟩, hb⟩ := he
  rcases hown with ⟨_, hn⟩ | ⟨g, cap2, cur, rfl, hg, hrow, hcap, hmax, hcs, htake⟩
  ·exact absurd (Q5 hn) hne
  ·refine ⟨g, cap2, us, rfl, hg, (Array.getElem?_eq_some_iff.1 hrow).1, hcap, ⟨hmax, fun j hj => ⟨by rw [cell_of_row _ _ j cur _ (0, 0) hrow, Array.getElem?_eq_getElem (by omega)]; rfl, by simp [World.frozen?, hrow]⟩⟩, by rw [h2, h3], h4, h6, fun j x hj => ?_, hb⟩
   rw [<- htake, List.getElem?_take] at hj
   split at hj
   ·refine ⟨by rw [cell_of_row _ _ j cur _ (0, 0) hrow, <- Array.getElem?_toList]; exact hj, ?_⟩
    simp [World.frozen?, hrow]
   ·cases hj
theorem qJ (h : List (List AV)) : Contract Tryz.prog 91 [.sl 2 [] none .no] h (.sl 2 [] none .no) h [] := by
 refine gh (by kernel_rfl) rfl fun G w vs hW hvs => ?_
 obtain ⟨x, rfl, hx⟩ := hvs.one
 cases hx with
 | sl _ _ _ _ a len cap u hlen hn hk hcap hm =>
  have hl0 : len = 0 := hlen
  subst hl0
  have empty : ∀ (G : Ghost) (a : Option Addr) (cap : Nat), (a = none -> cap = 0) -> cap <= maxLen -> Sees G (.sl 2 [] none .no) (.slice a 0 cap) := fun G a cap h1 h2 =>
   .sl 2 [] none .no a 0 cap (fun _ _ => undef) rfl ⟨fun h => ⟨h1 h, rfl⟩, fun h => (by cases h), fun h => (by cases h)⟩ (fun e h => by cases h) (Rd _) h2 (fun h => by cases h) (fun h => by simp at h) (fun i e h => by simp at h) (fun i j h => by simp at h)
  cases a with
  | none =>
   refine (pS w cap).mono fun e w' he => ?_
   obtain ⟨rfl, rfl⟩ := he
   exact ⟨_, rfl, empty G none 0 (fun _ => rfl) (Rd _), Below.refl _ _⟩
  | some ad =>
   refine (mO ad cap w).mono fun e w' he => ?_
   obtain ⟨v, rfl, ⟨_, hown⟩, hb⟩ := he
   rcases hown with ⟨rfl, _⟩ | ⟨g, cap2, cur, rfl, hg, hrow, hcap2, hmax, hcs, htake⟩
   ·exact ⟨_, rfl, empty G none 0 (fun _ => rfl) (Rd _), hb⟩
   ·exact ⟨_, rfl, empty G _ cap2 (fun h => by cases h) hmax, hb⟩
theorem vf (xs : List UInt8) (hl : xs.length <= 140737488351232) (h : List (List AV)) : Contract Tryz.prog 92 [.sl 1 (af xs) none .no] h (.sl 1 (af xs) none (.own .res)) h [] := by
 refine eX (E := 5) (by kernel_rfl) fun G w vs hW hvs => ?_
 obtain ⟨x, rfl, hx⟩ := hvs.one
 obtain ⟨a, cap, rfl, hc0, hcap, hmax, hat⟩ := hx.bytes hW
 cases a with
 | none =>
  have hn : xs = [] := by
   cases xs with
   | nil => rfl
   | cons x l => obtain ⟨_, _, hh, _⟩ := hat (by simp); cases hh
  subst hn
  refine (sR w cap).mono fun e w' he => ?_
  obtain ⟨rfl, rfl⟩ := he
  exact ⟨_, rfl, World.ownsRow_nil _ _ _ _, Below.refl _ _⟩
 | some ad =>
  by_cases hn : xs = []
  ·subst hn
   refine (pO ad cap w).mono fun e w' he => ?_
   obtain ⟨v, rfl, hown, hb⟩ := he
   exact ⟨v, rfl, hown, hb⟩
  ·obtain ⟨b, off, e1, hblt, hcell⟩ := hat (Q7.2 hn)
   injection e1 with e1
   subst e1
   refine (sx b off xs.length cap (vals xs) w (by simp [vals]) (fun j u hu => by
    have hj : j < xs.length := by
     have := (Q1.1 hu).1; simpa [vals] using this
    rw [ez xs j hj] at hu
    injection hu with hu
    subst hu
    exact hcell j hj) hblt (jK xs) hl).mono fun e w' he => ?_
   obtain ⟨v, rfl, hown, hb⟩ := he
   exact ⟨v, rfl, hown, hb⟩
end Go.Proofs.YtdfgljojemmlcaaGreat.Ax
namespace Go.Proofs.YtdfgljojemmlcaaGreat.Ax
open Go.RowKit Go By Go.Proofs.YtdfgljojemmlcaaGreat.Nm Sc Dg
set_option maxRecDepth 10000
theorem rA {i : Nat} : ∀ (F : List AV) (j : Nat), dC i j F F
 | [], _ => trivial
 | x :: r, j => ⟨j7 _ _, rA r (j + 1)⟩
theorem uU {i : Nat} : ∀ (F : List AV) (j p : Nat) (a b : AV), F[p]? = some b -> LeqV (.cell i (j + p)) a b -> dC i j (F.set p a) F
 | x :: r, j, 0, a, b, h, hv => by
  simp at h
  subst h
  exact ⟨hv, rA r (j + 1)⟩
 | x :: r, j, p + 1, a, b, h, hv => ⟨j7 _ _, uU r (j + 1) p a b (by simpa using h) (by rw [show j + 1 + p = j + (p + 1) by omega]; exact hv)⟩
theorem rN : ∀ (l : List Cl) (i : Nat) (hi : i < l.length), (ai aC l).flatten[i * 2 + 1]? = some (.sl 1 (af l[i].2) none .no)
 | x :: l, 0, _ => by simp [aC]
 | x :: l, i + 1, hi => by
  have hi' : i < l.length := by simpa using hi
  have ih := rN l i hi'
  have hc : (aC x).length = 2 := rfl
  rw [l9, Q4, Q2 (by rw [hc]; omega), show (i + 1) * 2 + 1 - (aC x).length = i * 2 + 1 by rw [hc]; omega, ih]
  rfl
theorem ti (n : Nat) : ∀ l : List Cl, dP n (ai aC l).flatten
 | [] => trivial
 | x :: l => by rw [l9, Q4, lA]; exact ⟨⟨trivial, iy n _, trivial⟩, ti n l⟩
theorem dd {a b : List (List AV)} : ∀ (h : List (List AV)) (k : Nat), jo (k + h.length) a b -> jo k (h ++ a) (h ++ b)
 | [], k, hh => by simpa using hh
 | c :: r, k, hh => ⟨.inl rfl, dd r (k + 1) (by simp only [Re] at hh; rw [show k + 1 + r.length = k + (r.length + 1) by omega]; exact hh)⟩
end Go.Proofs.YtdfgljojemmlcaaGreat.Ax
