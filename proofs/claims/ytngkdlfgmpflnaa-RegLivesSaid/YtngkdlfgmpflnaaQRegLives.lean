/- Whatever is called in whatever order, a registry answers as the document says, and has what the document's has. -/
import Derived.Test.YtngkdlfgmpflnaaQAxXr
import Derived.Test.YtngkdlfgmpflnaaQAxRa
import Derived.Test.YtngkdlfgmpflnaaQAxIb
import Derived.Test.YtngkdlfgmpflnaaRows
import Derived.Test.YtngkdlfgmpflnaaQElems
import Derived.WalkKit
import Derived.ProofKit
import Derived.OpenShut
import Derived.ShutString
import Derived.ChangeOld
import Derived.Below
/- slices.Clone, over values without memory: a copy is a variable of its own. -/
namespace Go.Proofs.Ytngkdlfgmpflnaa.Ax
open Go.RowKit Go By
set_option linter.unusedSimpArgs false
set_option linter.unusedVariables false
set_option maxRecDepth 10000

/-! ### Contracts out of calls: a new variable -/
section
variable {P : Program} {f : FuncId} {args : List AV} {h : List (List AV)}
theorem contract_newbox (hE : entersB P f = true) {k n : Nat} {cs : List AV} (hid : ∀ c ∈ cs, c.idOf = none)
    (hc : ∀ (G : Ghost) (w : World) (vs : List Value), WorldOk G w → SeesL G args vs → Calls P f vs.toArray w fun e w' => ∃ (g cap : Nat) (us : List Value), e = .returned (.slice (some ⟨g, 0, none⟩) n cap) ∧ w.heap.size ≤ g ∧ g < w'.heap.size ∧ n ≤ cap ∧ (cap ≤ maxLen ∧ ∀ j, j < cap * k → (w'.cell? ⟨g, j, none⟩).isSome = true ∧ w'.frozen? ⟨g, j, none⟩ = false) ∧ us.length = cs.length ∧ (∀ x ∈ us, x.oneCell' = true) ∧
      (∀ (j : Nat) (c : AV), cs[j]? = some c → Sees G c (us.getD j undef)) ∧ (∀ (j : Nat) (x : Value), us[j]? = some x → w'.cell? ⟨g, j, none⟩ = some x ∧ w'.frozen? ⟨g, j, none⟩ = false) ∧ Below w.heap.size w w') :
    Contract P f args h (.bsl h.length 0 k n) (h ++ [cs]) [] := by
  refine ⟨enters_ofB hE, fun G w vs cls hW hS hvs hown hoh => ?_⟩
  refine (hc G w vs hW hvs).mono fun e w' he => ?_
  obtain ⟨g, cap, us, rfl, hg, hgw, hncap, hmax, hlen, hone, hsee, hcells, hb⟩ := he
  have hbelow : Below G.w0.heap.size G.w0 w' := hW.below.trans (hb.mono hW.size)
  have hcell : ∀ (b j : Nat), b < w.heap.size → w'.cell? ⟨b, j, none⟩ = w.cell? ⟨b, j, none⟩ ∧ w'.frozen? ⟨b, j, none⟩ = w.frozen? ⟨b, j, none⟩ := fun b j hlt =>
    ⟨World.cell?_of_block (w := w) (a := ⟨b, j, none⟩) (hb.block b hlt), World.frozen?_of_block (w := w) (a := ⟨b, j, none⟩) (hb.block b hlt)⟩
  have hfresh : G.bufs g = none := by
    cases hB : G.bufs g with
    | none => rfl
    | some B => have := (hW.buf g B hB).2.1; omega
  have hE' : Ext G (G.newRoom g us (cap * k)) := Ext.newRoom (fun i hi => by have := (hW.boxlt hi).1; omega) us _
  have hl0 : h.length = G.boxv.length := hS.1
  have hlb : G.boxv.length = G.boxes.length := hW.len
  have at_ : ∀ (i : Nat) (ds : List AV) (vs : List Value), (h ++ [cs])[i]? = some ds → (G.boxv ++ [us])[i]? = some vs → (h[i]? = some ds ∧ G.boxv[i]? = some vs) ∨ (i = h.length ∧ ds = cs ∧ vs = us) := fun i ds vs e1 e2 => by
    by_cases hi : i < h.length
    · rw [List.getElem?_append_left hi] at e1
      rw [List.getElem?_append_left (by omega)] at e2
      exact .inl ⟨e1, e2⟩
    · have hi2 : i = h.length := by
        have := (List.getElem?_eq_some_iff.1 e1).1
        simp at this; omega
      subst hi2
      simp at e1
      rw [hl0] at e2
      simp at e2
      exact .inr ⟨rfl, e1.symm, e2.symm⟩
  have hW' : WorldOk (G.newRoom g us (cap * k)) w' := by
    refine ⟨hbelow, fun b B hB => ?_, fun i b vs2 h1 h2 => ?_, ⟨hW.nodup.snoc hW.len (fun i hi => by have := (hW.boxlt hi).1; omega) us, hW.dom⟩, by simp [Ghost.newRoom, hW.len], hW.obj.newRoom (keepsO_below hb) hW.len hg hmax.2⟩
    · obtain ⟨h1, h2, h3, h4, h5⟩ := hW.buf b B hB
      exact ⟨h1, by have := hb.size; omega, h3, fun j hj => by rw [(hcell b j h2).1, (hcell b j h2).2]; exact h4 j hj, fun j x hx => by rw [(hcell b j h2).1]; exact h5 j x hx⟩
    · have h1' : (G.boxes ++ [g])[i]? = some b := h1
      have h2' : (G.boxv ++ [us])[i]? = some vs2 := h2
      by_cases hi : i < G.boxes.length
      · rw [List.getElem?_append_left hi] at h1'
        rw [List.getElem?_append_left (by omega)] at h2'
        obtain ⟨h3, h4, h5, h6⟩ := hW.box i b vs2 h1' h2'
        refine ⟨h3, by have := hb.size; omega, h5, fun j x hx hkn => ?_⟩
        have hkn' : (if b = g then (none, cap * k) else G.kr b).1 = none := hkn
        rw [if_neg (by omega)] at hkn'
        rw [(hcell b j h4).1, (hcell b j h4).2]; exact h6 j x hx hkn'
      · have hi2 : i = G.boxes.length := by
          have := (List.getElem?_eq_some_iff.1 h1').1
          simp at this; omega
        subst hi2
        simp at h1'
        rw [← hlb] at h2'
        simp at h2'
        subst h1' h2'
        exact ⟨by have := hW.size; show G.w0.heap.size ≤ _; omega, hgw, fun _ => hfresh, fun j x hx _ => hcells j x hx⟩
  refine ⟨_, G.newRoom g us (cap * k), cls, rfl, hE', hW', ⟨by simp [Ghost.newRoom, hS.1], fun i ds vs2 h1 h2 => ?_⟩, fun i ds vs2 h1 h2 j c hj => ?_, ?_, trivial, fun c hc => (by simp [AV.idOf] at hc), fun i hi _ => ?_, fun b B hB _ => hB⟩
  · rcases at_ i ds vs2 h1 h2 with ⟨e1, e2⟩ | ⟨rfl, rfl, rfl⟩
    · obtain ⟨h3, h4, h5⟩ := hS.2 i ds vs2 e1 e2
      exact ⟨h3, h4, fun j c hj => (h5 j c hj).ext hE'⟩
    · exact ⟨hlen, hone, fun j c hj => (hsee j c hj).ext hE'⟩
  · rcases at_ i ds vs2 h1 h2 with ⟨e1, e2⟩ | ⟨rfl, rfl, rfl⟩
    · obtain ⟨h3, h4⟩ := hoh i ds vs2 e1 e2 j c hj
      exact ⟨h3.move fun b y B hB _ hbB hcl => ⟨hbB, hcl, .inr (.inr ⟨i, ds, vs2, j, c, e1, e2, hj, hB⟩)⟩, h4⟩
    · have hn := hid c (List.mem_of_getElem? hj)
      exact ⟨.none _ hn, fun x hx => by rw [hn] at hx; cases hx⟩
  · refine .bsl _ _ _ _ g cap ⟨?_, ?_⟩ hncap ⟨hmax.1, ?_⟩
    · show (G.boxes ++ [g])[h.length]? = some g
      rw [hl0, hlb]; simp
    · show (if g = g then (none, cap * k) else G.kr g : Option Kind × Nat).1 = none
      rw [if_pos rfl]
    · show _ ≤ (if g = g then (none, cap * k) else G.kr g : Option Kind × Nat).2
      rw [if_pos rfl, Nat.zero_add]
      exact Nat.le_refl _
  · show (G.boxv ++ [us])[i]? = _
    rw [List.getElem?_append_left hi]
/-- What a slice's address is, may be split. -/
theorem contract_nul {pre post : List AV} {k : Nat} {es : List (List AV)} {room : Room} {r : AV} {h' : List (List AV)} {wr : List Nat} (h1 : es = [] → Contract P f (pre ++ .sl k es (some true) room :: post) h r h' wr) (h2 : Contract P f (pre ++ .sl k es (some false) room :: post) h r h' wr) :
    Contract P f (pre ++ .sl k es none room :: post) h r h' wr := by
  refine ⟨h2.1, fun G w vs cls hW hS hvs hown hoh => ?_⟩
  have hx := hvs.2 pre.length (.sl k es none room) (by simp)
  have key : ∀ nul : Option Bool, Sees G (.sl k es nul room) (vs.getD pre.length undef) → Contract P f (pre ++ .sl k es nul room :: post) h r h' wr → Calls P f vs.toArray w fun e w' => ∃ v G' cls', e = .returned v ∧ After G (Touched G (pre ++ .sl k es none room :: post) vs h) r h' wr v G' cls' w' := fun nul hs hc => by
    have get_ : ∀ (i : Nat) (x : AV), (pre ++ .sl k es nul room :: post)[i]? = some x → (i = pre.length ∧ x = .sl k es nul room ∧ (pre ++ .sl k es none room :: post)[i]? = some (.sl k es none room)) ∨ (pre ++ .sl k es none room :: post)[i]? = some x := fun i x hi => by
      by_cases e : i = pre.length
      · subst e
        simp at hi
        exact .inl ⟨rfl, hi.symm, by simp⟩
      · right
        rcases Nat.lt_or_ge i pre.length with h3 | h3
        · rw [List.getElem?_append_left h3] at hi ⊢; exact hi
        · rw [List.getElem?_append_right h3] at hi ⊢
          obtain ⟨d, hd⟩ : ∃ d, i - pre.length = d + 1 := ⟨i - pre.length - 1, by omega⟩
          rw [hd] at hi ⊢
          simpa using hi
    have hT : Touched G (pre ++ .sl k es nul room :: post) vs h = Touched G (pre ++ .sl k es none room :: post) vs h := by
      have one : ∀ n1 n2 : Option Bool, ∀ b, Touched G (pre ++ .sl k es n1 room :: post) vs h b → Touched G (pre ++ .sl k es n2 room :: post) vs h b := fun n1 n2 b ht => by
        rcases ht with ⟨i, x, hi, ho⟩ | ht
        · left
          by_cases e : i = pre.length
          · subst e
            simp at hi
            subst hi
            exact ⟨pre.length, .sl k es n2 room, by simp, by cases room <;> exact ho⟩
          · refine ⟨i, x, ?_, ho⟩
            rcases Nat.lt_or_ge i pre.length with h3 | h3
            · rw [List.getElem?_append_left h3] at hi ⊢; exact hi
            · rw [List.getElem?_append_right h3] at hi ⊢
              obtain ⟨d, hd⟩ : ∃ d, i - pre.length = d + 1 := ⟨i - pre.length - 1, by omega⟩
              rw [hd] at hi ⊢
              simpa using hi
        · exact .inr ht
      funext b
      exact propext ⟨one _ _ b, one _ _ b⟩
    have := hc.2 G w vs cls hW hS ⟨by have := hvs.1; simpa using this, fun i x hi => by
      rcases get_ i x hi with ⟨rfl, rfl, _⟩ | h4
      · exact hs
      · exact hvs.2 i x h4⟩ (fun i x hi => by
      rcases get_ i x hi with ⟨rfl, rfl, h4⟩ | h4
      · obtain ⟨h5, h6⟩ := hown _ _ h4
        refine ⟨?_, fun c hc => h6 c (by cases room <;> exact hc)⟩
        cases room <;> first | exact h5 | (cases hv : vs.getD pre.length undef <;> rw [hv] at h5 <;> exact h5)
      · exact hown i x h4) hoh
    rwa [hT] at this
  cases hv : vs.getD pre.length undef with
  | slice a len cap =>
    rw [hv] at hx
    cases hx with
    | sl _ _ _ _ _ _ _ u hlen hn hk hcap hm hr hc hs ho =>
      cases ha : a with
      | none =>
        subst ha
        have he : es = [] := List.eq_nil_of_length_eq_zero (by have := (hn.1 rfl).2; omega)
        exact key (some true) (by rw [hv]; exact .sl k es (some true) room none len cap u hlen ⟨hn.1, fun _ => rfl, fun h => by cases h⟩ hk hcap hm hr hc hs ho) (h1 he)
      | some ad =>
        subst ha
        exact key (some false) (by rw [hv]; exact .sl k es (some false) room (some ad) len cap u hlen ⟨hn.1, fun h => (by cases h), fun _ h => by cases h⟩ hk hcap hm hr hc hs ho) h2
  | _ => rw [hv] at hx; cases hx
end
theorem contract_blank {P : Program} {f : FuncId} {args : List AV} {h : List (List AV)} (hE : entersB P f = true) {r : AV} (hr : r.idOf = none) (hc : ∀ (G : Ghost) (w : World) (vs : List Value), WorldOk G w → SeesL G args vs → Calls P f vs.toArray w fun e w' => ∃ v, e = .returned v ∧ Sees G r v ∧ Below w.heap.size w w') : Contract P f args h r h [] := by
  refine ⟨enters_ofB hE, fun G w vs cls hW hS hvs hown hoh => ?_⟩
  refine (hc G w vs hW hvs).mono fun e w' he => ?_
  obtain ⟨v, rfl, hv, hb⟩ := he
  have hcell : ∀ (b j : Nat), b < w.heap.size → w'.cell? ⟨b, j, none⟩ = w.cell? ⟨b, j, none⟩ ∧ w'.frozen? ⟨b, j, none⟩ = w.frozen? ⟨b, j, none⟩ := fun b j hlt =>
    ⟨World.cell?_of_block (w := w) (a := ⟨b, j, none⟩) (hb.block b hlt), World.frozen?_of_block (w := w) (a := ⟨b, j, none⟩) (hb.block b hlt)⟩
  have hW' : WorldOk G w' := by
    refine ⟨hW.below.trans (hb.mono hW.size), fun b B hB => ?_, fun i b us h1 h2 => ?_, hW.nodup2, hW.len, hW.objK (keepsO_below hb)⟩
    · obtain ⟨h1, h2, h3, h4, h5⟩ := hW.buf b B hB
      exact ⟨h1, by have := hb.size; omega, h3, fun j hj => by rw [(hcell b j h2).1, (hcell b j h2).2]; exact h4 j hj, fun j x hx => by rw [(hcell b j h2).1]; exact h5 j x hx⟩
    · obtain ⟨h3, h4, h5, h6⟩ := hW.box i b us h1 h2
      exact ⟨h3, by have := hb.size; omega, h5, fun j x hx => by rw [(hcell b j h4).1, (hcell b j h4).2]; exact h6 j x hx⟩
  refine ⟨v, G, cls, rfl, Ext.refl G, hW', hS, fun i cs us h1 h2 j c hj => ?_, hv, .none _ hr, fun c hc => (by rw [hr] at hc; cases hc), fun _ _ _ => rfl, fun _ _ hb _ => hb⟩
  obtain ⟨h3, h4⟩ := hoh i cs us h1 h2 j c hj
  exact ⟨h3.imp2 fun b y B hB _ _ hcl => ⟨hcl, .inr (.inr ⟨i, cs, us, j, c, h1, h2, hj, hB⟩)⟩, h4⟩
end Go.Proofs.Ytngkdlfgmpflnaa.Ax
/- A registry over values without memory: its calls, but for All. -/
namespace Go.Proofs.Ytngkdlfgmpflnaa.Ax
open Go.RowKit Go By
set_option linter.unusedSimpArgs false
set_option linter.unusedVariables false
set_option maxRecDepth 10000

theorem iclone_c (l : List Int) (hl : l.length ≤ 1000000) (h : List (List AV)) : Contract Try.prog 46 [.sl 1 (enc intC l) none .no] h (.sl 1 (enc intC l) none .no) h [] := by
  refine contract_nul (pre := []) (post := []) (fun he => ?_) ?_
  · have : l = [] := by cases l with | nil => rfl | cons _ _ => simp [enc] at he
    subst this
    refine contract_of k46 mixed (by simp [c46]) fun hh hargs => ?_
    simp [c46, hh, enc]
  · refine contract_of k46 mixed (by simp [c46]) fun hh hargs => ?_
    simp [c46, hh]
    omega
def stOf : Option Sl → Sm
  | some s => s.st
  | none => ⟨[], []⟩
def refsOf : Option Sl → Nat
  | some s => s.refs
  | none => 0
def idOfS : Option Sl → Nat
  | some s => s.id
  | none => 0
section
variable {lo : Nat} {h : List (List AV)} {i : Nat} {R : Rg}
theorem RegAt.move (hr : RegAt lo h i R) {h' : List (List AV)} (hk : ∀ k, lo ≤ k → k < h.length → h'[k]? = h[k]?) (hlt : ltLL h'.length h') : RegAt lo h' i R := by
  have at_ : ∀ {k : Nat} {x : List AV}, lo ≤ k → h[k]? = some x → h'[k]? = some x := fun {k x} h1 h2 => by
    rw [hk k h1 (List.getElem?_eq_some_iff.1 h2).1]; exact h2
  exact ⟨at_ hr.low.1 hr.top, at_ hr.low.2.1 hr.recs, at_ hr.low.2.2.1 hr.ids, fun s hs => at_ (hr.low.2.2.2 s hs) (hr.at_ s hs), hr.low, hr.apart, hr.boxes, hlt⟩
theorem RegAt.app (hr : RegAt lo h i R) (xs : List (List AV)) (hx : ltLL (h.length + xs.length) xs) : RegAt lo (h ++ xs) i R :=
  hr.move (fun k _ hk => List.getElem?_append_left hk) (by rw [ltLL_append, List.length_append]; exact ⟨ltLL_mono (Nat.le_add_right _ _) hr.lt, hx⟩)
theorem gget_c (hr : RegAt lo h i R) {n : Nat} (ho : RgOk n R) (id : Int) : Contract Try.prog 26 [.box i 0, .v (.int .i64 id)] h (.tup [.agg (smC (stOf (R.find id))), .v (.bool (R.find id).isSome)]) h [] := by
  refine contract_of k26 mixed (by simp [c26]) fun hh hargs => ?_
  simp [c26]
  have hr2 : RegAt lo (h ++ [[.v (.string (strB [])), .sl 0 [] (some true) .exact]]) i R := hr.app _ (by simp)
  refine xcall_self (by simp) (gfind_c hr2 id) ?_
  cases hs : R.find id with
  | none => simp [ptrOf, stOf, smC_mk, hh]
  | some s =>
    have hb := hr.box_lt (find_mem hs).1
    have hc := hr.at_ s (find_mem hs).1
    have hc2 : (h ++ [[.v (.string (strB [])), .sl 0 [] (some true) .exact]])[s.box]? = some s.cells := by rw [List.getElem?_append_left hb]; exact hc
    rw [Sl.cells_mk] at hc2
    have hne : ¬ s.box = h.length := by omega
    simp [ptrOf, hc2, hne]
    refine xcall_self (by simp) (iclone_c s.st.oids (by have := (ho.short s (find_mem hs).1).2; omega) _) ?_
    simp [stOf, smC_mk, hh, hne]
theorem grefs_c (hr : RegAt lo h i R) (id : Int) : Contract Try.prog 31 [.box i 0, .v (.int .i64 id)] h (.v (.int .i64 (refsOf (R.find id) : Int))) h [] := by
  refine contract_of k31 mixed (by simp [c31]) fun hh hargs => ?_
  simp [c31]
  refine xcall_self (by simp) (gfind_c hr id) ?_
  cases hs : R.find id with
  | none => simp [ptrOf, refsOf, hh]
  | some s =>
    have hb := hr.box_lt (find_mem hs).1
    have hc := hr.at_ s (find_mem hs).1
    rw [Sl.cells_mk] at hc
    simp [ptrOf, hc, refsOf, hh]
theorem glen_c (hr : RegAt lo h i R) : Contract Try.prog 35 [.box i 0] h (.v (.int .i64 (R.l.length : Int))) h [] := by
  have h1 := hr.top
  have h2 := hr.recs
  have h3 := recs_of R
  rw [Rg.top_mk] at h1
  refine contract_of k35 mixed (by simp [c35]) fun hh hargs => ?_
  simp [c35, h1, h2, h3, hh]
theorem ent_found (R : Rg) (m : Sm) (hk : ∀ s ∈ R.l, keyable s.st = true) : found true true [.v (.int .i64 0)] (AEnt.find (.string (strB (keyB m))) (R.l.map Sl.ent) 0) = .tup [.v (.int .i64 (idOfS (R.findS m) : Int)), .v (.bool (R.findS m).isSome)] := by
  rw [found_map 0 (ents_eq m hk)]
  unfold Rg.findS
  cases R.l.find? (fun s => decide (s.st = m)) <;> rfl
theorem gfindS_c (hr : RegAt lo h i R) {n : Nat} (ho : RgOk n R) (m : Sm) (hl : m.oids.length ≤ 140737488355328) : Contract Try.prog 28 [.box i 0, .agg (smC m)] h (.tup [.v (.int .i64 (idOfS (R.findS m) : Int)), .v (.bool (R.findS m).isSome)]) h [] := by
  have h1 := hr.top
  have h2 := hr.ids
  have h3 := ents_of R
  have h4 := ents_keys R.l
  have h5 := ent_found R m ho.key
  have hi := hr.i_lt
  have hb := (List.getElem?_eq_some_iff.1 h2).1
  rw [Rg.top_mk] at h1
  refine contract_of k28 mixed (by simp [c28]) fun hh hargs => ?_
  have h1' : (h ++ [smC m])[i]? = some [.mp R.a 1 true, .mp R.b 1 true, .v (.int .i64 (R.last : Int))] := by rw [List.getElem?_append_left hi]; exact h1
  have h2' : (h ++ [smC m])[R.b]? = some (mapC R.last (R.l.map Sl.ent)) := by rw [List.getElem?_append_left hb]; exact h2
  simp [c28, h1', hi]
  refine xcall_self (by simp) (kof_c m hl _) ?_
  simp [h2', h3, h4, h5, hb, hh]
end
end Go.Proofs.Ytngkdlfgmpflnaa.Ax
/- A registry over values without memory: its calls that change it. -/
namespace Go.Proofs.Ytngkdlfgmpflnaa.Ax
open Go.RowKit Go By
set_option linter.unusedSimpArgs false
set_option linter.unusedVariables false
set_option maxRecDepth 10000

def plainH (h : List (List AV)) : Prop := ∀ cs ∈ h, ∀ c ∈ cs, c.idOf = none
theorem plainH_set {h : List (List AV)} (hp : plainH h) {cs : List AV} (hc : ∀ c ∈ cs, c.idOf = none) (k : Nat) : plainH (h.set k cs) := fun x hx => by
  rcases List.mem_or_eq_of_mem_set hx with h1 | h1
  · exact hp x h1
  · subst h1; exact hc
theorem plainH_append {h g : List (List AV)} (hp : plainH h) (hg : plainH g) : plainH (h ++ g) := fun x hx => by
  rcases List.mem_append.1 hx with h1 | h1
  · exact hp x h1
  · exact hg x h1
theorem Sl.cells_plain (s : Sl) : ∀ c ∈ s.cells, c.idOf = none := by intro c hc; rw [Sl.cells_mk] at hc; simp at hc; rcases hc with rfl | rfl | rfl <;> rfl
theorem recs_plain (k : Nat) (l : List Sl) : ∀ c ∈ mapC k (l.map Sl.recE), c.idOf = none := mapC_id fun e he c hc => (recs_keys l e he).2 c hc
theorem ents_plain (k : Nat) (l : List Sl) : ∀ c ∈ mapC k (l.map Sl.ent), c.idOf = none := mapC_id fun e he c hc => (ents_keys l e he).2 c hc
def Rg.touch (R : Rg) (i : Nat) : List Nat := i :: R.a :: R.b :: R.l.map Sl.box
def Rg.upd (R : Rg) (id n : Nat) : Rg := { R with l := R.l.map fun x => if x.id = id then { x with refs := n } else x }
def Rg.del (R : Rg) (id : Nat) : Rg := { R with l := R.l.eraseP fun x => decide (x.id = id) }
def Rg.add (R : Rg) (m : Sm) (box : Nat) : Rg := { R with last := R.last + 1, l := R.l ++ [⟨R.last + 1, 0, m, box⟩] }
theorem Rg.upd_recs (R : Rg) (id n : Nat) : (R.upd id n).l.map Sl.recE = R.l.map Sl.recE := by
  unfold Rg.upd
  rw [List.map_map]
  refine List.map_congr_left fun x _ => ?_
  simp only [Function.comp]
  split <;> rfl
theorem Rg.upd_ents (R : Rg) (id n : Nat) : (R.upd id n).l.map Sl.ent = R.l.map Sl.ent := by
  unfold Rg.upd
  rw [List.map_map]
  refine List.map_congr_left fun x _ => ?_
  simp only [Function.comp]
  split <;> rfl
theorem Rg.upd_boxes (R : Rg) (id n : Nat) : (R.upd id n).l.map Sl.box = R.l.map Sl.box := by
  unfold Rg.upd
  rw [List.map_map]
  refine List.map_congr_left fun x _ => ?_
  simp only [Function.comp]
  split <;> rfl
theorem Rg.upd_ids (R : Rg) (id n : Nat) : (R.upd id n).l.map Sl.id = R.l.map Sl.id := by
  unfold Rg.upd
  rw [List.map_map]
  refine List.map_congr_left fun x _ => ?_
  simp only [Function.comp]
  split <;> rfl
theorem Rg.upd_sts (R : Rg) (id n : Nat) : (R.upd id n).l.map Sl.st = R.l.map Sl.st := by
  unfold Rg.upd
  rw [List.map_map]
  refine List.map_congr_left fun x _ => ?_
  simp only [Function.comp]
  split <;> rfl
theorem Rg.upd_touch (R : Rg) (id n i : Nat) : (R.upd id n).touch i = R.touch i := by
  unfold Rg.touch
  rw [Rg.upd_boxes]
  rfl
theorem map_inj_mem {α β : Type} {f : α → β} : ∀ {l : List α}, (l.map f).Nodup → ∀ {x y : α}, x ∈ l → y ∈ l → f x = f y → x = y
  | a :: l, h, x, y, hx, hy, e => by
    rw [List.map_cons, List.nodup_cons] at h
    rcases List.mem_cons.1 hx with h1 | h1 <;> rcases List.mem_cons.1 hy with h2 | h2
    · rw [h1, h2]
    · exact (h.1 (List.mem_map.2 ⟨y, h2, by rw [← h1]; exact e.symm⟩)).elim
    · exact (h.1 (List.mem_map.2 ⟨x, h1, by rw [← h2]; exact e⟩)).elim
    · exact map_inj_mem h.2 h1 h2 e
theorem eraseP_congr {α : Type} {p q : α → Bool} : ∀ {l : List α}, (∀ x ∈ l, p x = q x) → l.eraseP p = l.eraseP q
  | [], _ => rfl
  | a :: l, h => by
    have h1 := h a (List.mem_cons_self ..)
    have h2 := eraseP_congr fun x hx => h x (List.mem_cons_of_mem _ hx)
    simp only [List.eraseP_cons, h1, h2]
theorem mem_eraseP_ne {α β : Type} [DecidableEq β] {f : α → β} {b : β} : ∀ {l : List α}, (l.map f).Nodup → ∀ {x : α}, x ∈ l.eraseP (fun y => decide (f y = b)) → x ∈ l ∧ f x ≠ b
  | [], _, x, hx => by simp at hx
  | a :: l, h, x, hx => by
    rw [List.map_cons, List.nodup_cons] at h
    rw [List.eraseP_cons] at hx
    by_cases e : f a = b
    · simp [e] at hx
      exact ⟨List.mem_cons_of_mem _ hx, fun e2 => h.1 (List.mem_map.2 ⟨x, hx, e2.trans e.symm⟩)⟩
    · simp [e] at hx
      rcases hx with rfl | hx
      · exact ⟨List.mem_cons_self .., e⟩
      · obtain ⟨h1, h2⟩ := mem_eraseP_ne h.2 hx
        exact ⟨List.mem_cons_of_mem _ h1, h2⟩
theorem RgOk.idsN {n : Nat} {R : Rg} (ho : RgOk n R) : (R.l.map Sl.id).Nodup := ho.rise.imp fun h => Nat.ne_of_lt h
section
variable {lo : Nat} {h : List (List AV)} {i : Nat} {R : Rg}
theorem Sl.cells_lt (s : Sl) (n : Nat) : ltL n s.cells := by simp [Sl.cells_mk]
theorem RegAt.upd (hr : RegAt lo h i R) (hid : (R.l.map Sl.id).Nodup) {s : Sl} (hs : s ∈ R.l) (n : Nat) : RegAt lo (h.set s.box ({ s with refs := n } : Sl).cells) i (R.upd s.id n) := by
  have hb := hr.apart.2.2.2 s hs
  refine ⟨?_, ?_, ?_, fun x hx => ?_, ⟨hr.low.1, hr.low.2.1, hr.low.2.2.1, fun x hx => ?_⟩, ⟨hr.apart.1, hr.apart.2.1, hr.apart.2.2.1, fun x hx => ?_⟩, ?_, ?_⟩
  · rw [List.getElem?_set_ne hb.1]; exact hr.top
  · rw [Rg.upd_recs]
    show (h.set s.box _)[R.a]? = _
    rw [List.getElem?_set_ne hb.2.1]; exact hr.recs
  · rw [Rg.upd_ents]
    show (h.set s.box _)[R.b]? = _
    rw [List.getElem?_set_ne hb.2.2]; exact hr.ids
  · obtain ⟨y, hy, rfl⟩ := List.mem_map.1 hx
    by_cases e : y.id = s.id
    · have := map_inj_mem hid hy hs e
      subst this
      simp only [if_true]
      rw [List.getElem?_set_self (hr.box_lt hs)]
    · simp only [if_neg e]
      have hne : s.box ≠ y.box := fun e2 => e (by rw [map_inj_mem hr.boxes hs hy e2])
      rw [List.getElem?_set_ne hne]
      exact hr.at_ y hy
  · have : x.box ∈ (R.upd s.id n).l.map Sl.box := List.mem_map.2 ⟨x, hx, rfl⟩
    rw [Rg.upd_boxes] at this
    obtain ⟨y, hy, e⟩ := List.mem_map.1 this
    rw [← e]; exact hr.low.2.2.2 y hy
  · have : x.box ∈ (R.upd s.id n).l.map Sl.box := List.mem_map.2 ⟨x, hx, rfl⟩
    rw [Rg.upd_boxes] at this
    obtain ⟨y, hy, e⟩ := List.mem_map.1 this
    rw [← e]; exact hr.apart.2.2.2 y hy
  · rw [Rg.upd_boxes]; exact hr.boxes
  · rw [List.length_set]; exact ltLL_set hr.lt (Sl.cells_lt _ _)
/-- What a call does to a registry. -/
def Does (f : FuncId) (args : List AV) (lo : Nat) (h : List (List AV)) (i : Nat) (R : Rg) (r : AV) (R' : Rg) : Prop :=
  ∃ h', Contract Try.prog f args h r h' (R.touch i) ∧ RegAt lo h' i R' ∧ h.length ≤ h'.length ∧ (∀ k < h.length, k ∉ R.touch i → h'[k]? = h[k]?) ∧ (plainH h → plainH h')
theorem wrap64N {n : Nat} (h : n ≤ 1000000) : IntKind.i64.wrap (n : Int) = n := wrap64 (by omega) (by omega)
/-- A statement, one more referred to. -/
def Rg.ref (R : Rg) (id : Int) : Rg := match R.find id with
  | some s => R.upd s.id (s.refs + 1)
  | none => R
theorem gref_c (hr : RegAt lo h i R) {n : Nat} (ho : RgOk n R) (hn : n ≤ 1000) (id : Int) : Does 22 [.box i 0, .v (.int .i64 id)] lo h i R (.v (.bool (R.find id).isSome)) (R.ref id) := by
  cases hs : R.find id with
  | none =>
    refine ⟨h, ?_, ?_, Nat.le_refl _, fun _ _ _ => rfl, fun h => h⟩
    · refine contract_of k22 mixed (by simp [c22]) fun hh hargs => ?_
      simp [c22]
      refine xcall_self (by simp) (gfind_c hr id) ?_
      simp [hs, ptrOf, hh]
    · unfold Rg.ref; rw [hs]; exact hr
  | some s =>
    have hm := (find_mem hs).1
    have hb := hr.box_lt hm
    have hc := hr.at_ s hm
    have hrf := (ho.refs s hm).2
    refine ⟨h.set s.box ({ s with refs := s.refs + 1 } : Sl).cells, ?_, ?_, by simp, fun k _ hk => ?_, fun hp => plainH_set hp (Sl.cells_plain _) _⟩
    · rw [Sl.cells_mk] at hc
      refine contract_of k22 mixed (by simp [c22]) fun hh hargs => ?_
      have hw : IntKind.i64.wrap ((s.refs : Int) + 1) = (s.refs : Int) + 1 := wrap64 (by omega) (by omega)
      simp [c22]
      refine xcall_self (by simp) (gfind_c hr id) ?_
      simp [hs, ptrOf, hc, hw, Sl.cells_mk, hh, Rg.touch]
      exact fun _ => .inr (.inr (.inr ⟨s, hm, rfl⟩))
    · unfold Rg.ref; rw [hs]; exact hr.upd ho.idsN hm _
    · rw [List.getElem?_set_ne]
      intro e
      exact hk (by rw [← e]; simp [Rg.touch]; exact .inr (.inr (.inr ⟨s, hm, rfl⟩)))
/-- A statement, one less referred to. -/
def Rg.drop (R : Rg) (id : Int) : Rg := match R.find id with
  | some s => if s.refs = 1 then R.del s.id else R.upd s.id (s.refs - 1)
  | none => R
theorem same_st {n : Nat} (ho : RgOk n R) {s : Sl} (hs : s ∈ R.l) (h : ∀ x ∈ R.l, keyable x.st = true) : AEnt.del (.string (strB (keyB s.st))) (R.l.map Sl.ent) = (R.del s.id).l.map Sl.ent := by
  rw [del_map (ents_eq s.st h)]
  unfold Rg.del
  rw [eraseP_congr (q := fun x => decide (x.id = s.id))]
  intro x hx
  rw [decide_eq_decide]
  exact ⟨fun e => by rw [map_inj_mem ho.one hx hs e], fun e => by rw [map_inj_mem ho.idsN hx hs e]⟩
theorem same_id (R : Rg) (id : Nat) : AEnt.del (.int .i64 (id : Int)) (R.l.map Sl.recE) = (R.del id).l.map Sl.recE := by
  rw [del_map (recs_eq (id : Int) R.l)]
  unfold Rg.del
  rw [eraseP_congr (q := fun x => decide (x.id = id))]
  intro x hx
  rw [decide_eq_decide]
  omega
theorem mapC_lt {n clock : Nat} {l : List AEnt} (h : ∀ e ∈ l, ∀ c ∈ e.cells, c.lt n) : ltL n (mapC clock l) := by
  refine ltL_of fun j c hj => ?_
  have hc := List.mem_of_getElem? hj
  unfold mapC at hc
  simp only [List.mem_cons, List.mem_flatMap] at hc
  rcases hc with rfl | rfl | ⟨e, he, hc⟩
  · simp
  · simp
  · unfold AEnt.avs at hc
    simp only [List.mem_cons] at hc
    rcases hc with rfl | rfl | hc
    · simp
    · simp
    · exact h e he c hc
theorem recs_lt {n : Nat} (c : Nat) {l : List Sl} (h : ∀ s ∈ l, s.box < n) : ltL n (mapC c (l.map Sl.recE)) := mapC_lt fun x hx c hc => by
  obtain ⟨y, hy, rfl⟩ := List.mem_map.1 hx
  rw [List.mem_singleton.1 hc]
  simpa using h y hy
theorem ents_lt (n c : Nat) (l : List Sl) : ltL n (mapC c (l.map Sl.ent)) := mapC_lt fun x hx c hc => by
  obtain ⟨y, hy, rfl⟩ := List.mem_map.1 hx
  rw [List.mem_singleton.1 hc]; simp
theorem RegAt.del (hr : RegAt lo h i R) (hid : (R.l.map Sl.id).Nodup) {s : Sl} (hs : s ∈ R.l) (cs : List AV) (hcs : ltL h.length cs) : RegAt lo (((h.set s.box cs).set R.b (mapC R.last ((R.del s.id).l.map Sl.ent))).set R.a (mapC R.last ((R.del s.id).l.map Sl.recE))) i (R.del s.id) := by
  have hb := hr.apart.2.2.2 s hs
  have hsub : ∀ x ∈ (R.del s.id).l, x ∈ R.l ∧ x.id ≠ s.id := fun x hx => mem_eraseP_ne hid hx
  have ha := hr.apart
  have hla : R.a < h.length := (List.getElem?_eq_some_iff.1 hr.recs).1
  have hlb : R.b < h.length := (List.getElem?_eq_some_iff.1 hr.ids).1
  refine ⟨?_, ?_, ?_, fun x hx => ?_, ⟨hr.low.1, hr.low.2.1, hr.low.2.2.1, fun x hx => hr.low.2.2.2 x (hsub x hx).1⟩, ⟨ha.1, ha.2.1, ha.2.2.1, fun x hx => ha.2.2.2 x (hsub x hx).1⟩, ?_, ?_⟩
  · rw [List.getElem?_set_ne (Ne.symm ha.1), List.getElem?_set_ne (Ne.symm ha.2.1), List.getElem?_set_ne hb.1]; exact hr.top
  · show (List.set _ R.a _)[R.a]? = _
    rw [List.getElem?_set_self (by simpa using hla)]
    rfl
  · show (List.set _ R.a _)[R.b]? = _
    rw [List.getElem?_set_ne ha.2.2.1, List.getElem?_set_self (by simpa using hlb)]
    rfl
  · obtain ⟨h1, h2⟩ := hsub x hx
    have h3 := ha.2.2.2 x h1
    have hne : s.box ≠ x.box := fun e => h2 (by rw [map_inj_mem hr.boxes hs h1 e])
    rw [List.getElem?_set_ne (Ne.symm h3.2.1), List.getElem?_set_ne (Ne.symm h3.2.2), List.getElem?_set_ne hne]
    exact hr.at_ x h1
  · exact hr.boxes.sublist (List.Sublist.map _ (List.eraseP_sublist ..))
  · simp only [List.length_set]
    exact ltLL_set (ltLL_set (ltLL_set hr.lt hcs) (ents_lt _ _ _)) (recs_lt _ fun y hy => hr.box_lt (hsub y hy).1)
theorem gdrop_c (hr : RegAt lo h i R) {n : Nat} (ho : RgOk n R) (hn : n ≤ 1000) (id : Int) : Does 24 [.box i 0, .v (.int .i64 id)] lo h i R (.v (.bool (R.find id).isSome)) (R.drop id) := by
  cases hs : R.find id with
  | none =>
    refine ⟨h, ?_, ?_, Nat.le_refl _, fun _ _ _ => rfl, fun h => h⟩
    · refine contract_of k24 mixed (by simp [c24]) fun hh hargs => ?_
      simp [c24]
      refine xcall_self (by simp) (gfind_c hr id) ?_
      simp [hs, ptrOf, hh]
    · unfold Rg.drop; rw [hs]; exact hr
  | some s =>
    have hm := (find_mem hs).1
    have hid := (find_mem hs).2
    have hb := hr.box_lt hm
    have hc := hr.at_ s hm
    have hrf := ho.refs s hm
    by_cases h1 : s.refs = 1
    · refine ⟨_, ?_, by unfold Rg.drop; rw [hs]; simp only [if_pos h1]; exact hr.del ho.idsN hm ({ s with refs := 0 } : Sl).cells (Sl.cells_lt _ _), by simp, fun k _ hk => ?_, fun hp => plainH_set (plainH_set (plainH_set hp (Sl.cells_plain _) _) (ents_plain _ _) _) (recs_plain _ _) _⟩
      · rw [Sl.cells_mk] at hc
        have e1 := hr.top
        have e2 := hr.recs
        have e3 := hr.ids
        have e4 := recs_of R
        have e5 := ents_of R
        have e6 := same_st ho hm ho.key
        have e7 := same_id R s.id
        have e8 := recs_keys R.l
        have e9 := ents_keys R.l
        rw [Rg.top_mk] at e1
        have hb := hr.apart.2.2.2 s hm
        refine contract_of k24 mixed (by simp [c24]) fun hh hargs => ?_
        have hw : IntKind.i64.wrap ((s.refs : Int) - 1) = 0 := by rw [h1]; exact wrap64 (by omega) (by omega)
        have hs1 : ∀ x : List AV, (h.set s.box x)[s.box]? = some x := fun x => List.getElem?_set_self (hr.box_lt hm)
        have hs2 : ∀ x : List AV, (h.set s.box x)[i]? = some [.mp R.a 1 true, .mp R.b 1 true, .v (.int .i64 (R.last : Int))] := fun x => by rw [List.getElem?_set_ne hb.1]; exact e1
        have hs3 : ∀ x : List AV, (h.set s.box x)[R.a]? = some (mapC R.last (R.l.map Sl.recE)) := fun x => by rw [List.getElem?_set_ne hb.2.1]; exact e2
        have hs4 : ∀ x : List AV, (h.set s.box x)[R.b]? = some (mapC R.last (R.l.map Sl.ent)) := fun x => by rw [List.getElem?_set_ne hb.2.2]; exact e3
        simp [c24]
        refine xcall_self (by simp) (gfind_c hr id) ?_
        simp [hs, ptrOf, hc, hw, Sl.cells_mk, hh, Rg.touch, hs1, hs2, hs3, hs4, hb]
        refine xcall_self (by simp) (kof_c s.st (by have := (ho.short s hm).2; omega) _) ?_
        have hs5 : ∀ x y : List AV, ((h.set s.box x).set R.b y)[i]? = some [.mp R.a 1 true, .mp R.b 1 true, .v (.int .i64 (R.last : Int))] := fun x y => by rw [List.getElem?_set_ne (Ne.symm hr.apart.2.1)]; exact hs2 x
        have hs6 : ∀ x y : List AV, ((h.set s.box x).set R.b y)[R.a]? = some (mapC R.last (R.l.map Sl.recE)) := fun x y => by rw [List.getElem?_set_ne (Ne.symm hr.apart.2.2.1)]; exact hs3 x
        rw [← hid]
        simp [hs2, hs3, hs4, hs5, hs6, e4, e5, e6, e7, e8, e9, hh]
        refine ⟨?_, ltLL_set (ltLL_set (ltLL_set hh (by simp)) (ents_lt _ _ _)) (recs_lt _ fun y hy => hr.box_lt (mem_eraseP_ne ho.idsN hy).1), fun _ => .inr (.inr (.inr ⟨s, hm, rfl⟩))⟩
        rw [List.take_of_length_le (by simp)]
        exact leqH_refl _ _
      · simp [Rg.touch] at hk
        rw [List.getElem?_set_ne (by omega), List.getElem?_set_ne (by omega), List.getElem?_set_ne]
        exact hk.2.2.2 s hm
    · refine ⟨h.set s.box ({ s with refs := s.refs - 1 } : Sl).cells, ?_, by unfold Rg.drop; rw [hs]; simp only [if_neg h1]; exact hr.upd ho.idsN hm _, by simp, fun k _ hk => ?_, fun hp => plainH_set hp (Sl.cells_plain _) _⟩
      · rw [Sl.cells_mk] at hc
        refine contract_of k24 mixed (by simp [c24]) fun hh hargs => ?_
        have hw : IntKind.i64.wrap ((s.refs : Int) - 1) = ((s.refs - 1 : Nat) : Int) := by rw [wrap64 (by omega) (by omega)]; omega
        have hne : ¬ s.refs - 1 = 0 := by omega
        have hs1 : ∀ x : List AV, (h.set s.box x)[s.box]? = some x := fun x => List.getElem?_set_self (hr.box_lt hm)
        simp [c24]
        refine xcall_self (by simp) (gfind_c hr id) ?_
        simp [hs, ptrOf, hc, hw, Sl.cells_mk, hh, Rg.touch, hne, hs1]
        exact fun _ => .inr (.inr (.inr ⟨s, hm, rfl⟩))
      · simp [Rg.touch] at hk
        rw [List.getElem?_set_ne]
        exact hk.2.2.2 s hm
end
end Go.Proofs.Ytngkdlfgmpflnaa.Ax
/- A registry over values without memory: New and Put. -/
namespace Go.Proofs.Ytngkdlfgmpflnaa.Ax
open Go.RowKit Go By
set_option linter.unusedSimpArgs false
set_option linter.unusedVariables false
set_option maxRecDepth 10000

def newH (h : List (List AV)) : List (List AV) := h ++ [mapC 0 [], mapC 0 [], [.mp h.length 1 true, .mp (h.length + 1) 1 true, .v (.int .i64 0)]]
theorem newH_at {h : List (List AV)} (hh : ltLL h.length h) : RegAt h.length (newH h) (h.length + 2) ⟨h.length, h.length + 1, 0, []⟩ := by
  refine ⟨by simp [newH, Rg.top_mk], by simp [newH], by simp [newH], fun s hs => by simp at hs, ⟨by simp, by simp, by simp, fun s hs => by simp at hs⟩, ⟨by simp, by simp, by simp, fun s hs => by simp at hs⟩, by simp, ?_⟩
  simp [newH]
  refine ⟨ltLL_mono (by omega) hh, ?_⟩
  simp [mapC]
theorem newH_ok (h : List (List AV)) : RgOk 0 ⟨h.length, h.length + 1, 0, []⟩ := ⟨by simp, by simp, by simp, by simp, by simp, by simp, by simp⟩
theorem gnew_c (h : List (List AV)) : Contract Try.prog 19 [] h (.box (h.length + 2) 0) (newH h) [] := by
  refine contract_of k19 mixed (by simp [c19]) fun hh hargs => ?_
  have := (newH_at hh).lt
  simp [newH] at this
  simp [c19, newH, hh, mapC]
section
variable {lo : Nat} {h : List (List AV)} {i : Nat} {R : Rg}
theorem splitK_keyB {m : Sm} (hk : keyable m = true) : splitK (keyB m) = m := by
  exact (key_split hk).2
theorem RegAt.add (hr : RegAt lo h i R) {n : Nat} (ho : RgOk n R) (m : Sm) {h' : List (List AV)} {nb : Nat} (hnb : h.length ≤ nb) (e1 : h'[i]? = some (R.add m nb).top) (e2 : h'[R.a]? = some (mapC (R.add m nb).last ((R.add m nb).l.map Sl.recE))) (e3 : h'[R.b]? = some (mapC (R.add m nb).last ((R.add m nb).l.map Sl.ent)))
    (e4 : h'[nb]? = some [.v (.string (strB m.text)), .sl 1 (enc intC m.oids) none .no, .v (.int .i64 0)]) (hk : ∀ k < h.length, k ≠ i → k ≠ R.a → k ≠ R.b → h'[k]? = h[k]?) (hlt : ltLL h'.length h') : RegAt lo h' i (R.add m nb) := by
  have hmem : ∀ x ∈ (R.add m nb).l, x ∈ R.l ∨ x = ⟨R.last + 1, 0, m, nb⟩ := fun x hx => by
    rcases List.mem_append.1 hx with hx | hx
    · exact .inl hx
    · exact .inr (List.mem_singleton.1 hx)
  have hi := hr.i_lt
  have hla : R.a < h.length := (List.getElem?_eq_some_iff.1 hr.recs).1
  have hlb : R.b < h.length := (List.getElem?_eq_some_iff.1 hr.ids).1
  have hlo := hr.low.1
  refine ⟨e1, e2, e3, fun x hx => ?_, ⟨hr.low.1, hr.low.2.1, hr.low.2.2.1, fun x hx => ?_⟩, ⟨hr.apart.1, hr.apart.2.1, hr.apart.2.2.1, fun x hx => ?_⟩, ?_, hlt⟩
  · rcases hmem x hx with h1 | h1
    · have h2 := hr.apart.2.2.2 x h1
      rw [hk _ (hr.box_lt h1) h2.1 h2.2.1 h2.2.2]; exact hr.at_ x h1
    · subst h1; exact e4
  · rcases hmem x hx with h1 | h1
    · exact hr.low.2.2.2 x h1
    · subst h1; show lo ≤ nb; omega
  · rcases hmem x hx with h1 | h1
    · exact hr.apart.2.2.2 x h1
    · subst h1; exact ⟨by show nb ≠ i; omega, by show nb ≠ R.a; omega, by show nb ≠ R.b; omega⟩
  · show ((R.l ++ [_]).map Sl.box).Nodup
    rw [List.map_append, List.nodup_append]
    refine ⟨hr.boxes, by simp, fun a ha b hb => ?_⟩
    obtain ⟨y, hy, rfl⟩ := List.mem_map.1 ha
    have := hr.box_lt hy
    simp at hb
    omega
theorem gadd_c (hr : RegAt lo h i R) {n : Nat} (ho : RgOk n R) (hn : n ≤ 1000) (m : Sm) (hk : keyable m = true) (hs : R.findS m = none) (hb : (keyB m).length ≤ 100000) : ∃ h', Contract Try.prog 42 [.box i 0, .v (.string (strB (keyB m)))] h (.v (.int .i64 ((R.last + 1 : Nat) : Int))) h' (R.touch i) ∧ RegAt lo h' i (R.add m (h.length + 1)) ∧ h.length + 1 < h'.length ∧ (∀ k < h.length, k ∉ R.touch i → h'[k]? = h[k]?) ∧ (plainH h → plainH h') := by
  have hi := hr.i_lt
  have hla : R.a < h.length := (List.getElem?_eq_some_iff.1 hr.recs).1
  have hlb : R.b < h.length := (List.getElem?_eq_some_iff.1 hr.ids).1
  have e1 := hr.top
  have e2 := hr.recs
  have e3 := hr.ids
  have e4 := recs_of R
  have e5 := ents_of R
  have e6 := ents_keys R.l
  have e7 := recs_keys R.l
  rw [Rg.top_mk] at e1
  have hg : ∀ {k : Nat} (xs : List (List AV)), k < h.length → (h ++ xs)[k]? = h[k]? := fun xs hk => List.getElem?_append_left hk
  have hf : R.find ((R.last + 1 : Nat) : Int) = none := by
    unfold Rg.find
    refine List.find?_eq_none.2 fun x hx => ?_
    have := (ho.ids x hx).2
    simp
    omega
  have hp1 : AEnt.put (.int .i64 ((R.last : Int) + 1)) R.last [.box (h.length + 1) 0] (R.l.map Sl.recE) = ((R.add m (h.length + 1)).l.map Sl.recE, R.last + 1) := by
    rw [show ((R.last : Int) + 1) = ((R.last + 1 : Nat) : Int) by omega, put_map_new _ _ (recs_eq _ R.l) hf]
    simp [Rg.add, Sl.recE]
  have hp2 : AEnt.put (.string (strB (keyB m))) R.last [.v (.int .i64 ((R.last : Int) + 1))] (R.l.map Sl.ent) = ((R.add m (h.length + 1)).l.map Sl.ent, R.last + 1) := by
    rw [put_map_new _ _ (ents_eq m ho.key) hs]
    simp [Rg.add, Sl.ent]
  obtain ⟨H1, h1⟩ : ∃ H1, H1 = h.set i [.mp R.a 1 true, .mp R.b 1 true, .v (.int .i64 ((R.last : Int) + 1))] := ⟨_, rfl⟩
  obtain ⟨H2, h2⟩ : ∃ H2, H2 = H1 ++ [smC m, [.v (.string (strB m.text)), .sl 1 (enc intC m.oids) none .no, .v (.int .i64 0)]] := ⟨_, rfl⟩
  obtain ⟨H3, h3⟩ : ∃ H3, H3 = H2.set R.a (mapC (R.last + 1) ((R.add m (h.length + 1)).l.map Sl.recE)) := ⟨_, rfl⟩
  obtain ⟨H4, h4⟩ : ∃ H4, H4 = H3.set R.b (mapC (R.last + 1) ((R.add m (h.length + 1)).l.map Sl.ent)) := ⟨_, rfl⟩
  have hl1 : H1.length = h.length := by rw [h1]; simp
  have hl4 : H4.length = h.length + 2 := by rw [h4, List.length_set, h3, List.length_set, h2, List.length_append, hl1]; rfl
  have hlt : ltLL H4.length H4 := by
    rw [hl4, h4, h3, h2, h1]
    refine ltLL_set (ltLL_set (ltLL_append.2 ⟨ltLL_set (ltLL_mono (by omega) hr.lt) ?_, ?_⟩) (recs_lt _ fun y hy => ?_)) (ents_lt _ _ _)
    · simp; omega
    · simp [smC_mk]
    · rcases List.mem_append.1 hy with hy | hy
      · have := hr.box_lt hy; omega
      · rw [List.mem_singleton.1 hy]; show h.length + 1 < _; omega
  have hlow : ∀ k < h.length, k ≠ i → k ≠ R.a → k ≠ R.b → H4[k]? = h[k]? := fun k hk n1 n2 n3 => by
    rw [h4, List.getElem?_set_ne (Ne.symm n3), h3, List.getElem?_set_ne (Ne.symm n2), h2, List.getElem?_append_left (by omega), h1, List.getElem?_set_ne (Ne.symm n1)]
  refine ⟨H4, ?_, hr.add ho m (Nat.le_succ _) ?_ ?_ ?_ ?_ hlow hlt, by omega, fun k hk hn => ?_, fun hp => ?_⟩
  · refine contract_of k42 mixed (by simp [c42]) fun hh hargs => ?_
    have hw : IntKind.i64.wrap ((R.last : Int) + 1) = (R.last : Int) + 1 := wrap64 (by have := ho.last; omega) (by have := ho.last; omega)
    simp [c42]
    refine xcall_self (by simp) (ksplit_c (keyB m) hb _) ?_
    have g1 : ∀ xs, (h ++ xs)[i]? = some [.mp R.a 1 true, .mp R.b 1 true, .v (.int .i64 (R.last : Int))] := fun xs => by rw [hg xs hi]; exact e1
    have s1 : ∀ xs c, (h ++ xs).set i c = h.set i c ++ xs := fun xs c => List.set_append_left _ _ hi
    have g2 : H1[i]? = some [.mp R.a 1 true, .mp R.b 1 true, .v (.int .i64 ((R.last : Int) + 1))] := by rw [h1]; exact List.getElem?_set_self hi
    have g3 : ∀ xs, (H1 ++ xs)[i]? = some [.mp R.a 1 true, .mp R.b 1 true, .v (.int .i64 ((R.last : Int) + 1))] := fun xs => by rw [List.getElem?_append_left (by omega)]; exact g2
    have g4 : ∀ xs, (H1 ++ xs)[R.a]? = some (mapC R.last (R.l.map Sl.recE)) := fun xs => by rw [List.getElem?_append_left (by omega), h1, List.getElem?_set_ne hr.apart.1]; exact e2
    have g5 : ∀ x xs, ((H1 ++ xs).set R.a x)[R.b]? = some (mapC R.last (R.l.map Sl.ent)) := fun x xs => by rw [List.getElem?_set_ne hr.apart.2.2.1, List.getElem?_append_left (by omega), h1, List.getElem?_set_ne hr.apart.2.1]; exact e3
    have g6 : ∀ x xs, ((H1 ++ xs).set R.a x)[i]? = some [.mp R.a 1 true, .mp R.b 1 true, .v (.int .i64 ((R.last : Int) + 1))] := fun x xs => by rw [List.getElem?_set_ne (Ne.symm hr.apart.1)]; exact g3 xs
    have g7 : ∀ x y xs, (((H1 ++ xs).set R.a x).set R.b y)[i]? = some [.mp R.a 1 true, .mp R.b 1 true, .v (.int .i64 ((R.last : Int) + 1))] := fun x y xs => by rw [List.getElem?_set_ne (Ne.symm hr.apart.2.1)]; exact g6 x xs
    simp [splitK_keyB hk, smC_mk, g1, s1, hi, hw, ← h1, g2, g3, g4, g5, g6, g7, hl1]
    simp [e4, e5, e6, e7, hp1, hp2]
    have e8 : H4 = ((H1 ++ [[AV.v (Value.string (strB m.text)), AV.sl 1 (enc intC m.oids) none .no], [AV.v (Value.string (strB m.text)), AV.sl 1 (enc intC m.oids) none .no, AV.v (Value.int IntKind.i64 0)]]).set R.a (mapC (R.last + 1) ((R.add m (h.length + 1)).l.map Sl.recE))).set R.b (mapC (R.last + 1) ((R.add m (h.length + 1)).l.map Sl.ent)) := by rw [h4, h3, h2, smC_mk]
    rw [← e8]
    refine ⟨by omega, by omega, leqH_take rfl, hlt, by simp [Rg.touch]⟩
  · rw [h4, List.getElem?_set_ne (Ne.symm hr.apart.2.1), h3, List.getElem?_set_ne (Ne.symm hr.apart.1), h2, List.getElem?_append_left (by omega), h1, List.getElem?_set_self hi, Rg.top_mk]
    simp [Rg.add]
  · rw [h4, List.getElem?_set_ne (Ne.symm hr.apart.2.2.1), h3, List.getElem?_set_self (by rw [h2, List.length_append]; omega)]
    rfl
  · rw [h4, List.getElem?_set_self (by rw [h3, List.length_set, h2, List.length_append]; omega)]
    rfl
  · rw [h4, List.getElem?_set_ne (by omega), h3, List.getElem?_set_ne (by omega), h2, List.getElem?_append_right (by omega), hl1]
    simp
  · simp [Rg.touch] at hn
    exact hlow k hk hn.1 hn.2.1 hn.2.2.1
  · rw [h4, h3, h2, h1]
    refine plainH_set (plainH_set (plainH_append (plainH_set hp ?_ _) ?_) (recs_plain _ _) _) (ents_plain _ _) _
    · intro c hc; simp at hc; rcases hc with rfl | rfl | rfl <;> rfl
    · intro x hx c hc
      simp [smC_mk] at hx
      rcases hx with rfl | rfl <;> simp at hc
      · rcases hc with rfl | rfl <;> rfl
      · rcases hc with rfl | rfl | rfl <;> rfl
end
end Go.Proofs.Ytngkdlfgmpflnaa.Ax
/- A registry over values without memory: Put, and what every call keeps. -/
namespace Go.Proofs.Ytngkdlfgmpflnaa.Ax
open Go.RowKit Go By
set_option linter.unusedSimpArgs false
set_option linter.unusedVariables false
set_option maxRecDepth 10000

def Rg.putS (R : Rg) (m : Sm) (nb : Nat) : Rg := match R.findS m with
  | some s => R.upd s.id (s.refs + 1)
  | none => (R.add m nb).upd (R.last + 1) 1
def Rg.put (R : Rg) (m : Sm) (nb : Nat) : Rg := if keyable m = true then R.putS m nb else R
def Rg.putId (R : Rg) (m : Sm) : Nat := if keyable m = true then (match R.findS m with
  | some s => s.id
  | none => R.last + 1) else 0
theorem find_id {n : Nat} {R : Rg} (ho : RgOk n R) {s : Sl} (hs : s ∈ R.l) : R.find (s.id : Int) = some s := by
  cases hf : R.find (s.id : Int) with
  | none =>
    unfold Rg.find at hf
    have := List.find?_eq_none.1 hf s hs
    simp at this
  | some t =>
    have := find_mem hf
    rw [map_inj_mem ho.idsN this.1 hs (by omega)]
section
variable {lo : Nat} {h : List (List AV)} {i : Nat} {R : Rg}
theorem add_nodup {n : Nat} (ho : RgOk n R) (m : Sm) (nb : Nat) : ((R.add m nb).l.map Sl.id).Nodup := by
  show ((R.l ++ [_]).map Sl.id).Nodup
  rw [List.map_append, List.nodup_append]
  refine ⟨ho.idsN, by simp, fun a ha b hb => ?_⟩
  obtain ⟨y, hy, rfl⟩ := List.mem_map.1 ha
  have := (ho.ids y hy).2
  simp at hb
  omega
theorem add_find {n : Nat} (ho : RgOk n R) (m : Sm) (nb : Nat) : (R.add m nb).find ((R.last + 1 : Nat) : Int) = some ⟨R.last + 1, 0, m, nb⟩ := by
  cases hf : (R.add m nb).find ((R.last + 1 : Nat) : Int) with
  | none =>
    unfold Rg.find at hf
    have := List.find?_eq_none.1 hf ⟨R.last + 1, 0, m, nb⟩ (List.mem_append.2 (.inr (List.mem_singleton.2 rfl)))
    simp at this
  | some t =>
    have h1 := find_mem hf
    congr 1
    exact map_inj_mem (add_nodup ho m nb) h1.1 (List.mem_append.2 (.inr (List.mem_singleton.2 rfl))) (by have := h1.2; show t.id = R.last + 1; omega)
theorem keyB_size {m : Sm} (hm : fewK m = true) : (keyB m).length ≤ 100000 := by have := keyB_len hm; omega
theorem gput_c (hr : RegAt lo h i R) {n : Nat} (ho : RgOk n R) (hn : n ≤ 1000) (m : Sm) (hl : m.oids.length ≤ 140737488355328) (hb : (keyB m).length ≤ 100000) : Does 20 [.box i 0, .agg (smC m)] lo h i R (.v (.int .i64 (R.putId m : Int))) (R.put m (h.length + 2)) := by
  have hi := hr.i_lt
  have hla : R.a < h.length := (List.getElem?_eq_some_iff.1 hr.recs).1
  have hlb : R.b < h.length := (List.getElem?_eq_some_iff.1 hr.ids).1
  have e1 := hr.top
  have e2 := hr.recs
  have e3 := hr.ids
  have e4 := recs_of R
  have e5 := ents_of R
  have e6 := ents_keys R.l
  have e7 := recs_keys R.l
  have e8 := ent_found R m ho.key
  rw [Rg.top_mk] at e1
  have hg : ∀ {k : Nat} (xs : List (List AV)), k < h.length → (h ++ xs)[k]? = h[k]? := fun xs hk => List.getElem?_append_left hk
  have g1 : ∀ xs, (h ++ xs)[i]? = some [.mp R.a 1 true, .mp R.b 1 true, .v (.int .i64 (R.last : Int))] := fun xs => by rw [hg xs hi]; exact e1
  have g2 : ∀ xs, (h ++ xs)[R.a]? = some (mapC R.last (R.l.map Sl.recE)) := fun xs => by rw [hg xs hla]; exact e2
  have g3 : ∀ xs, (h ++ xs)[R.b]? = some (mapC R.last (R.l.map Sl.ent)) := fun xs => by rw [hg xs hlb]; exact e3
  cases hk : keyable m with
  | false =>
    have hp : R.put m (h.length + 2) = R := by unfold Rg.put; rw [hk]; rfl
    have hq : R.putId m = 0 := by unfold Rg.putId; rw [hk]; rfl
    rw [hp, hq]
    refine ⟨h, ?_, hr, Nat.le_refl _, fun _ _ _ => rfl, fun h => h⟩
    refine contract_of k20 mixed (by simp [c20]) fun hh hargs => ?_
    simp [c20, g1]
    refine xcall_self (by simp) (kof_c m hl _) ?_
    rw [keyB_none hk]
    simp [hh]
  | true =>
    have hne : (keyB m).isEmpty = false := by
      have h2 := keyB_some hk
      cases hq : keyB m with
      | nil => exact absurd hq h2
      | cons _ _ => rfl
    cases hs : R.findS m with
    | some s =>
      have hm := (findS_mem hs).1
      have hp : R.put m (h.length + 2) = R.upd s.id (s.refs + 1) := by unfold Rg.put Rg.putS; rw [hk, hs]; rfl
      have hq : R.putId m = s.id := by unfold Rg.putId; rw [hk, hs]; rfl
      rw [hp, hq]
      refine ⟨h.set s.box ({ s with refs := s.refs + 1 } : Sl).cells, ?_, hr.upd ho.idsN hm _, by simp, fun k _ hk => ?_, fun hp => plainH_set hp (Sl.cells_plain _) _⟩
      · have hb1 := hr.box_lt hm
        have hc := hr.at_ s hm
        have hrf := (ho.refs s hm).2
        rw [Sl.cells_mk] at hc
        have g4 : ∀ xs, (h ++ xs)[s.box]? = some [.v (.string (strB s.st.text)), .sl 1 (enc intC s.st.oids) none .no, .v (.int .i64 (s.refs : Int))] := fun xs => by rw [hg xs hb1]; exact hc
        have e9 := rec_found R (s.id : Int)
        rw [find_id ho hm] at e9
        have hw : IntKind.i64.wrap ((s.refs : Int) + 1) = (s.refs : Int) + 1 := wrap64 (by omega) (by omega)
        refine contract_of k20 mixed (by simp [c20]) fun hh hargs => ?_
        simp [c20, g1]
        refine xcall_self (by simp) (kof_c m hl _) ?_
        simp [hne, g1, g2, g3, g4, e4, e5, e6, e7, e8, hs, idOfS]
        simp [g1, g2, g3, g4, e4, e5, e6, e7, e9, ptrOf]
        refine ⟨?_, ltLL_set hh (Sl.cells_lt _ _), fun _ => by simp [Rg.touch]; exact .inr (.inr (.inr ⟨s, hm, rfl⟩))⟩
        rw [List.set_append_left _ _ hb1, List.take_append_of_le_length (by simp), hw]
        exact leqH_take (by simp)
      · rw [List.getElem?_set_ne]
        intro e
        exact hk (by rw [← e]; simp [Rg.touch]; exact .inr (.inr (.inr ⟨s, hm, rfl⟩)))
    | none =>
      have hp : R.put m (h.length + 2) = (R.add m (h.length + 2)).upd (R.last + 1) 1 := by unfold Rg.put Rg.putS; rw [hk, hs]; rfl
      have hq : R.putId m = R.last + 1 := by unfold Rg.putId; rw [hk, hs]; rfl
      rw [hp, hq]
      have hr0 : RegAt lo (h ++ [smC m]) i R := hr.app _ (by simp [smC_mk])
      obtain ⟨h', hC, hA, hL, hK, hP⟩ := gadd_c hr0 ho hn m hk hs hb
      have ha2 : (h ++ [smC m]).length + 1 = h.length + 2 := by simp
      rw [ha2] at hA
      have hf := add_find ho m (h.length + 2)
      have hm := (find_mem hf).1
      have hU := hA.upd (add_nodup ho m (h.length + 2)) hm 1
      refine ⟨_, ?_, hU, by simp at hL ⊢; omega, fun k hk hn => ?_, fun hp => plainH_set (hP (plainH_append hp fun x hx c hc => by rw [List.mem_singleton.1 hx, smC_mk] at hc; simp at hc; rcases hc with rfl | rfl <;> rfl)) (Sl.cells_plain _) _⟩
      · have a1 := hA.top
        have a2 := hA.recs
        have a4 := recs_of (R.add m (h.length + 2))
        have a5 := recs_keys (R.add m (h.length + 2)).l
        have a6 := rec_found (R.add m (h.length + 2)) ((R.last + 1 : Nat) : Int)
        have a7 := hA.at_ _ hm
        rw [hf] at a6
        have hcast : ((R.last + 1 : Nat) : Int) = (R.last : Int) + 1 := by omega
        rw [hcast] at a6
        rw [Rg.top_mk] at a1
        rw [Sl.cells_mk] at a7
        have a8 : h'.length ≥ h.length := by simp at hL; omega
        refine contract_of k20 mixed (by simp [c20]) fun hh hargs => ?_
        simp [c20, g1]
        refine xcall_self (by simp) (kof_c m hl _) ?_
        simp [hne, g1, g2, g3, e4, e5, e6, e7, e8, hs, idOfS]
        refine xcall_self (by simp) hC ?_
        have hw1 : IntKind.i64.wrap 1 = 1 := wrap64 (by omega) (by omega)
        have hcs : ({ id := R.last + 1, refs := 1, st := m, box := h.length + 2 } : Sl).cells = [.v (.string (strB m.text)), .sl 1 (enc intC m.oids) none .no, .v (.int .i64 1)] := rfl
        have hlt' := hU.lt
        rw [List.length_set] at hlt'
        simp [a1, a2, a4, a5, a6, a7, ptrOf, hw1, hcs]
        exact ⟨a8, hlt', fun _ ha _ => ha⟩
      · rw [List.getElem?_set_ne (by show h.length + 2 ≠ k; omega), hK k (by simp; omega) hn]
        exact List.getElem?_append_left hk
end
end Go.Proofs.Ytngkdlfgmpflnaa.Ax
/- A registry over values without memory: what every call keeps. -/
namespace Go.Proofs.Ytngkdlfgmpflnaa.Ax
open Go.RowKit Go By
set_option linter.unusedSimpArgs false
set_option linter.unusedVariables false
set_option maxRecDepth 10000

theorem upd_mem {R : Rg} {id k : Nat} {x : Sl} (hx : x ∈ (R.upd id k).l) : ∃ y ∈ R.l, x.id = y.id ∧ x.st = y.st ∧ x.box = y.box ∧ (x.refs = k ∨ (x.refs = y.refs ∧ y.id ≠ id)) := by
  obtain ⟨y, hy, rfl⟩ := List.mem_map.1 hx
  refine ⟨y, hy, ?_⟩
  split
  · exact ⟨rfl, rfl, rfl, .inl rfl⟩
  · rename_i e; exact ⟨rfl, rfl, rfl, .inr ⟨rfl, e⟩⟩
theorem RgOk.mono {n n' : Nat} {R : Rg} (ho : RgOk n R) (h : n ≤ n') : RgOk n' R := ⟨ho.rise, ho.ids, fun s hs => ⟨(ho.refs s hs).1, Nat.le_trans (ho.refs s hs).2 h⟩, ho.key, ho.one, ho.short, Nat.le_trans ho.last h⟩
theorem RgOk.upd {n n' : Nat} {R : Rg} (ho : RgOk n R) (h : n ≤ n') (id : Nat) {k : Nat} (h1 : 1 ≤ k) (h2 : k ≤ n') : RgOk n' (R.upd id k) := by
  refine ⟨by rw [Rg.upd_ids]; exact ho.rise, fun x hx => ?_, fun x hx => ?_, fun x hx => ?_, by rw [Rg.upd_sts]; exact ho.one, fun x hx => ?_, Nat.le_trans ho.last h⟩ <;> obtain ⟨y, hy, e1, e2, _, e3⟩ := upd_mem hx
  · rw [e1]; exact ho.ids y hy
  · rcases e3 with e3 | e3
    · rw [e3]; exact ⟨h1, h2⟩
    · rw [e3.1]; exact ⟨(ho.refs y hy).1, Nat.le_trans (ho.refs y hy).2 h⟩
  · rw [e2]; exact ho.key y hy
  · rw [e2]; exact ho.short y hy
theorem RgOk.del {n : Nat} {R : Rg} (ho : RgOk n R) (id : Nat) : RgOk n (R.del id) := by
  have hs : (R.del id).l.Sublist R.l := List.eraseP_sublist ..
  exact ⟨ho.rise.sublist (hs.map _), fun x hx => ho.ids x (hs.subset hx), fun x hx => ho.refs x (hs.subset hx), fun x hx => ho.key x (hs.subset hx), ho.one.sublist (hs.map _), fun x hx => ho.short x (hs.subset hx), ho.last⟩
theorem RgOk.ref {n : Nat} {R : Rg} (ho : RgOk n R) (id : Int) : RgOk (n + 1) (R.ref id) := by
  unfold Rg.ref
  cases hs : R.find id with
  | none => exact ho.mono (Nat.le_succ _)
  | some s => exact ho.upd (Nat.le_succ _) _ (by omega) (by have := (ho.refs s (find_mem hs).1).2; omega)
theorem RgOk.drop {n : Nat} {R : Rg} (ho : RgOk n R) (id : Int) : RgOk (n + 1) (R.drop id) := by
  unfold Rg.drop
  cases hs : R.find id with
  | none => exact ho.mono (Nat.le_succ _)
  | some s =>
    have h1 := ho.refs s (find_mem hs).1
    by_cases h2 : s.refs = 1
    · simp only [if_pos h2]; exact (ho.del _).mono (Nat.le_succ _)
    · simp only [if_neg h2]; exact ho.upd (Nat.le_succ _) _ (by omega) (by omega)
theorem RgOk.put {n : Nat} {R : Rg} (ho : RgOk n R) (m : Sm) (hm : m.text.length ≤ 300 ∧ m.oids.length ≤ 20) (nb : Nat) : RgOk (n + 1) (R.put m nb) := by
  unfold Rg.put
  by_cases hk : keyable m = true
  · rw [if_pos hk]
    unfold Rg.putS
    cases hs : R.findS m with
    | some s => exact ho.upd (Nat.le_succ _) _ (by omega) (by have := (ho.refs s (findS_mem hs).1).2; omega)
    | none =>
      show RgOk (n + 1) ((R.add m nb).upd (R.last + 1) 1)
      have hl := ho.last
      have hmem : ∀ x ∈ (R.add m nb).l, x ∈ R.l ∨ x = ⟨R.last + 1, 0, m, nb⟩ := fun x hx => by
        rcases List.mem_append.1 hx with hx | hx
        · exact .inl hx
        · exact .inr (List.mem_singleton.1 hx)
      refine ⟨?_, fun x hx => ?_, fun x hx => ?_, fun x hx => ?_, ?_, fun x hx => ?_, by show R.last + 1 ≤ n + 1; omega⟩
      · rw [Rg.upd_ids]
        show ((R.l ++ [_]).map Sl.id).Pairwise _
        rw [List.map_append, List.pairwise_append]
        refine ⟨ho.rise, by simp, fun a ha b hb => ?_⟩
        obtain ⟨y, hy, rfl⟩ := List.mem_map.1 ha
        have := (ho.ids y hy).2
        simp at hb
        omega
      · obtain ⟨y, hy, e1, e2, _, e3⟩ := upd_mem hx
        rw [e1]
        show 1 ≤ y.id ∧ y.id ≤ R.last + 1
        rcases hmem y hy with h | h
        · have := ho.ids y h; omega
        · subst h; show 1 ≤ R.last + 1 ∧ R.last + 1 ≤ R.last + 1; omega
      · obtain ⟨y, hy, e1, e2, _, e3⟩ := upd_mem hx
        rcases e3 with e3 | e3
        · omega
        · rcases hmem y hy with h | h
          · have := ho.refs y h; omega
          · subst h; exact absurd rfl e3.2
      · obtain ⟨y, hy, e1, e2, _, e3⟩ := upd_mem hx
        rw [e2]
        rcases hmem y hy with h | h
        · exact ho.key y h
        · subst h; exact hk
      · rw [Rg.upd_sts]
        show ((R.l ++ [_]).map Sl.st).Nodup
        rw [List.map_append, List.nodup_append]
        refine ⟨ho.one, by simp, fun a ha b hb => ?_⟩
        obtain ⟨y, hy, rfl⟩ := List.mem_map.1 ha
        have hb : b = m := by simpa using hb
        subst hb
        unfold Rg.findS at hs
        have := List.find?_eq_none.1 hs y hy
        simpa using this
      · obtain ⟨y, hy, e1, e2, _, e3⟩ := upd_mem hx
        rw [e2]
        rcases hmem y hy with h | h
        · exact ho.short y h
        · subst h; exact hm
  · rw [if_neg hk]; exact ho.mono (Nat.le_succ _)
end Go.Proofs.Ytngkdlfgmpflnaa.Ax
/- A registry over values without memory: the ids in order. -/
namespace Go.Proofs.Ytngkdlfgmpflnaa.Ax
open Go.RowKit Go By
set_option linter.unusedSimpArgs false
set_option linter.unusedVariables false
set_option maxRecDepth 10000

def Rg.ids (R : Rg) : List Nat := R.l.map Sl.id
def intsN (l : List Nat) : List Int := l.map fun n : Nat => (n : Int)
theorem enc_vE (l : List Int) : vE (ints64 l) = enc intC l := by
  unfold vE ints64 enc
  rw [List.map_map]
  rfl
theorem seen_lt : ∀ {l : List Nat} {seen : List Nat} {x : Nat}, x ∈ l → x ∉ seen → (l.filter fun y => decide (y ∉ seen ++ [x])).length < (l.filter fun y => decide (y ∉ seen)).length := by
  intro l seen x hx hs
  have hle : ∀ l : List Nat, (l.filter fun y => decide (y ∉ seen ++ [x])).length ≤ (l.filter fun y => decide (y ∉ seen)).length := by
    intro l
    induction l with
    | nil => simp
    | cons a l ih =>
      by_cases h1 : a ∈ seen
      · simp [List.filter_cons, h1] at ih ⊢; exact ih
      · by_cases h2 : a = x
        · simp [List.filter_cons, h1, h2, hs] at ih ⊢; omega
        · simp [List.filter_cons, h1, h2] at ih ⊢; exact ih
  induction l with
  | nil => cases hx
  | cons a l ih =>
    have := hle l
    by_cases h2 : a = x
    · subst h2
      simp [List.filter_cons, hs] at this ⊢; omega
    · have ih := ih (by rcases List.mem_cons.1 hx with h | h; exact absurd h.symm h2; exact h)
      by_cases h1 : a ∈ seen
      · simp [List.filter_cons, h1] at ih ⊢; exact ih
      · simp [List.filter_cons, h1, h2] at ih ⊢; exact ih
theorem at_born : ∀ {l : List Sl}, (l.map Sl.id).Nodup → (∀ s ∈ l, 1 ≤ s.id) → ∀ {s : Sl}, s ∈ l → AEnt.at_ (s.id - 1) (l.map Sl.recE) = some s.recE
  | x :: l, hn, hp, s, hs => by
    rw [List.map_cons, List.nodup_cons] at hn
    rw [List.map_cons]
    unfold AEnt.at_
    have h1 := hp x (List.mem_cons_self ..)
    have h2 := hp s hs
    by_cases e : x.id = s.id
    · have hx : x = s := by
        rcases List.mem_cons.1 hs with h | h
        · exact h.symm
        · exact absurd (List.mem_map.2 ⟨s, h, e.symm⟩) hn.1
      subst hx
      rw [if_pos (show x.recE.born = x.id - 1 from rfl)]
    · have hs2 : s ∈ l := by
        rcases List.mem_cons.1 hs with h | h
        · exact absurd (by rw [h]) e
        · exact h
      rw [if_neg (by show ¬ (x.id - 1 = s.id - 1); omega)]
      exact at_born hn.2 (fun y hy => hp y (List.mem_cons_of_mem _ hy)) hs2
theorem sorted_ids {l m : List Nat} (hl : l.Pairwise (· < ·)) (hm : m.Nodup) (h : ∀ x, x ∈ m ↔ x ∈ l) : sortI (intsN m) = intsN l := by
  have hp : m.Perm l := (List.perm_ext_iff_of_nodup hm (hl.imp fun h => Nat.ne_of_lt h)).2 h
  have h1 : (sortI (intsN m)).Perm (intsN l) := (List.mergeSort_perm ..).trans (hp.map _)
  have h2 : (sortI (intsN m)).Pairwise (fun x y => decide (x ≤ y) = true) := List.pairwise_mergeSort (fun a b c h1 h2 => by simp at *; omega) (fun a b => by simp; omega) _
  have h3 : (intsN l).Pairwise (fun x y => decide (x ≤ y) = true) := by
    unfold intsN
    rw [List.pairwise_map]
    exact hl.imp fun h => by simp; omega
  exact h1.eq_of_pairwise (fun a b _ _ h1 h2 => by simp at h1 h2; omega) h2 h3
theorem rising_len {n : Nat} : ∀ {l : List Nat} {k : Nat}, l.Pairwise (· < ·) → (∀ x ∈ l, k < x ∧ x ≤ n) → l.length ≤ n - k
  | [], k, _, _ => by simp
  | a :: l, k, hl, h => by
    rw [List.pairwise_cons] at hl
    have h1 := h a (List.mem_cons_self ..)
    have := rising_len (k := a) hl.2 fun x hx => ⟨hl.1 x hx, (h x (List.mem_cons_of_mem _ hx)).2⟩
    rw [List.length_cons]
    omega
section
variable {lo : Nat} {h : List (List AV)} {i : Nat} {R : Rg}
theorem grising_c (hr : RegAt lo h i R) {n : Nat} (ho : RgOk n R) (hn : n ≤ 1000) (hp : plainH h) : Contract Try.prog 49 [.box i 0] h (.sl 1 (enc intC (intsN R.ids)) none .no) h [] := by
  have hi := hr.i_lt
  have hla : R.a < h.length := (List.getElem?_eq_some_iff.1 hr.recs).1
  have e1 := hr.top
  have e2 := hr.recs
  have e3 := recs_of R
  rw [Rg.top_mk] at e1
  have g2 : ∀ xs, (h ++ xs)[R.a]? = some (mapC R.last (R.l.map Sl.recE)) := fun xs => by rw [List.getElem?_append_left hla]; exact e2
  refine contract_of k49 mixed (by simp [c49]) fun hh hargs => ?_
  simp [c49, e1, e2, e3]
  refine xloop_ok (D := List Nat) (fun seen => ⟨[(0, .box i 0), (11, .itr h.length (some R.a) 1 true)], [(3, .sl 1 (enc intC (intsN seen)) none (.own (.new 3)))], h ++ [itC R.last R.last (seen.map (· - 1))], []⟩) (fun seen => seen.Nodup ∧ ∀ x ∈ seen, x ∈ R.ids) (fun seen => (R.ids.filter fun y => decide (y ∉ seen)).length) [] ⟨by simp, by simp⟩ ?_ ?_
  · simp [Leq, hh, hargs, hi, hla, leqH_take, intsN, itC]
    omega
  · rintro seen ⟨hn1, hn2⟩
    simp [g2, e3]
    refine ⟨fun a ha => ?_, fun hall => ?_, ?_⟩
    · have := ho.ids a ha
      show a.id - 1 < R.last
      omega
    · have hm : ∀ x, x ∈ seen ↔ x ∈ R.ids := fun x => ⟨hn2 x, fun hx => by
        obtain ⟨s, hs, rfl⟩ := List.mem_map.1 hx
        obtain ⟨y, hy, e⟩ := hall s hs
        have h1 := (ho.ids s hs).1
        have e : y - 1 = s.id - 1 := e
        obtain ⟨t, ht, e2⟩ := List.mem_map.1 (hn2 y hy)
        have h2 := (ho.ids t ht).1
        have : y = s.id := by omega
        rw [← this]; exact hy⟩
      have hperm : seen.Perm R.ids := (List.perm_ext_iff_of_nodup hn1 ho.idsN).2 hm
      have hsort := sorted_ids ho.rise hn1 hm
      have hlen := rising_len (k := 0) ho.rise (fun x hx => by obtain ⟨s, hs, rfl⟩ := List.mem_map.1 hx; have := ho.ids s hs; have := ho.last; exact ⟨by omega, by show s.id ≤ n; omega⟩)
      have hlen2 : seen.length ≤ 1000 := by rw [hperm.length_eq]; show (R.l.map Sl.id).length ≤ _; omega
      refine ⟨ints64 (intsN seen), ints64 (sortI (intsN seen)), 1, none, .own (.new 3), by rw [enc_vE]; rfl, .inl ⟨rfl, _, rfl, rfl⟩, sort_ints (intsN seen) (by unfold intsN; rw [List.length_map]; omega), ⟨by simp, hp⟩, by simp, ?_⟩
      rw [enc_vE, hsort]
      have hres : ∀ m (es : List (List AV)), resOf m (.sl 1 es none (.own (.new 2))) = .sl 1 es none (.own .res) := fun _ _ => rfl
      simp [St.sorted, St.calm, hh, hres, Rg.ids]
      done
    · intro a ha hnew
      have h1 := (ho.ids a ha).1
      have hb := at_born ho.idsN (fun s hs => (ho.ids s hs).1) ha
      have hkey : a.recE.key = .int .i64 (a.id : Int) := rfl
      rw [show a.recE.born = a.id - 1 from rfl, hb]
      have hlen := rising_len (k := 0) ho.rise (fun x hx => by obtain ⟨s, hs, rfl⟩ := List.mem_map.1 hx; have := ho.ids s hs; have := ho.last; exact ⟨by omega, by show s.id ≤ n; omega⟩)
      have hlen2 : seen.length ≤ 1000 := by
        have := hn1.length_le_of_subset (l₂ := R.ids) (fun x hx => hn2 x hx)
        unfold Rg.ids at this
        omega
      have hlen3 : (intsN seen).length ≤ 1000 := by unfold intsN; rw [List.length_map]; exact hlen2
      have hout : a.id ∉ seen := fun hx => hnew a.id hx rfl
      simp [hkey]
      refine ⟨by omega, by omega, seen ++ [a.id], ⟨?_, ?_⟩, by simpa using seen_lt (l := R.ids) (List.mem_map.2 ⟨a, ha, rfl⟩) hout, ?_⟩
      · rw [List.nodup_append]
        exact ⟨hn1, by simp, fun x hx y hy => by rw [List.mem_singleton.1 hy]; exact fun e => hout (by rw [← e]; exact hx)⟩
      · intro x hx
        rcases List.mem_append.1 hx with hx | hx
        · exact hn2 x hx
        · rw [List.mem_singleton.1 hx]; exact List.mem_map.2 ⟨a, ha, rfl⟩
      · simp [Leq, hh, hargs, hi, hla, leqH_take, intsN, itC, intC, enc]
        refine ⟨ltL_of fun j c hc => ?_, ltLL_of' fun j c hc => ?_, by omega, by omega⟩
        · obtain ⟨b, _, rfl⟩ := List.mem_map.1 (List.mem_of_getElem? hc); simp
        · obtain ⟨b, _, rfl⟩ := List.mem_map.1 (List.mem_of_getElem? hc); simp [intC]
end
end Go.Proofs.Ytngkdlfgmpflnaa.Ax
/- A registry over values without memory: All. -/
namespace Go.Proofs.Ytngkdlfgmpflnaa.Ax
open Go.RowKit Go By
set_option linter.unusedSimpArgs false
set_option linter.unusedVariables false
set_option maxRecDepth 10000

def Rg.idAt (R : Rg) (j : Nat) : Int := (intsN R.ids).getD j 0
def Rg.told (R : Rg) (j : Nat) : List AV := [.v (.int .i64 (R.idAt j)), .v (.int .i64 (refsOf (R.find (R.idAt j)) : Int))]
/-- A heap with a registry, and with a variable that leads to it. -/
structure RegV (i0 lo i L n : Nat) (R : Rg) (H : List (List AV)) : Prop where
  len : H.length = L
  var : H[i0]? = some [.box i 0]
  reg : RegAt lo H i R
  plain : plainH H
theorem gall_c {h : List (List AV)} {i : Nat} (hi : i < h.length) : Contract Try.prog 34 [.box i 0] h (.fn (.func 48) [] [.box h.length 0]) (h ++ [[.box i 0]]) [] := by
  refine contract_of k34 mixed (by simp [c34]) fun hh hargs => ?_
  simp [c34, hh, hi]
  omega
section
variable {lo : Nat} {i : Nat} {R : Rg}
theorem gall_iter {n : Nat} (ho : RgOk n R) (hn : n ≤ 1000) (i0 L : Nat) : Iter Try.prog 48 [.box i0 0] R.ids.length R.told true (RegV i0 lo i L n R) := by
  intro iy r c slots H wr hR hY
  have h0 := (hR 0 (by omega)).len
  have hL : ∀ j, j ≤ R.ids.length → (H j).length = L := fun j hj => (hR j hj).len
  have hT : ∀ j, j ≤ R.ids.length → ltLL L (H j) := fun j hj => by have := (hR j hj).reg.lt; rw [hL j hj] at this; exact this
  have hI : ∀ j, j ≤ R.ids.length → (H j)[i0]? = some [.box i 0] := fun j hj => (hR j hj).var
  have hil : i < L := by have := (hR 0 (by omega)).reg.i_lt; omega
  have hlenI : (intsN R.ids).length = R.ids.length := by unfold intsN; simp
  refine contract_of k48 mixed (by simp [c48]) fun hh hargs => ?_
  rw [h0] at hh hargs ⊢
  simp at hargs
  have hlen := rising_len (k := 0) ho.rise (fun x hx => by obtain ⟨s, hs, rfl⟩ := List.mem_map.1 hx; have := ho.ids s hs; have := ho.last; exact ⟨by omega, by show s.id ≤ n; omega⟩)
  have hlen2 : R.ids.length ≤ 1000 := by unfold Rg.ids; omega
  simp [c48, hI 0 (by omega)]
  refine xcall_self (by simp) (grising_c (hR 0 (by omega)).reg ho hn (hR 0 (by omega)).plain) ?_
  simp [hlenI]
  refine xloop_ok (D := Nat) (fun j => ⟨[(0, .yld iy r c slots), (1, .box i0 0), (6, .sl 1 (enc intC (intsN R.ids)) none .no), (7, .v (.int .i64 (R.ids.length : Int))), (8, .v (.int .i64 (j : Int)))], [], H j, wr⟩) (fun j => j ≤ R.ids.length) (fun j => R.ids.length - j) 0 (by omega) ?_ ?_
  · simp [Leq, hh, h0, hargs, leqH_take]
    done
  · intro j hj
    by_cases hlt : j < R.ids.length
    · have hlt2 : j < (intsN R.ids).length := by omega
      have hx : R.idAt j = (intsN R.ids)[j] := by unfold Rg.idAt; rw [List.getD_eq_getElem?_getD, List.getElem?_eq_getElem hlt2]; rfl
      simp [hlt, hlt2, intC, hI j hj]
      refine xcall_self (by simp) (grefs_c (hR j hj).reg _) ?_
      simp
      rw [← hx]
      refine xyield_self (by simp) (hY j hlt) ?_
      have hw : IntKind.i64.wrap ((j : Int) + 1) = (j : Int) + 1 := wrap64 (by omega) (by omega)
      have h1 := hL j hj
      have h2 := hL (j + 1) (by omega)
      have h3 := hT (j + 1) (by omega)
      simp [hw]
      refine ⟨j + 1, by omega, by omega, ?_⟩
      simp [Leq, h0, h2, h3, hargs, leqH_take, sub_self]
      done
    · have : j = R.ids.length := by omega
      subst this
      have h2 := hL _ hj
      have h3 := hT _ hj
      simp [h2, h3, leqH_take, sub_self]
end
end Go.Proofs.Ytngkdlfgmpflnaa.Ax
/- Layer 14's statements: what they lean on. -/
namespace Go.Proofs.Ytngkdlfgmpflnaa.Ax
open Go.RowKit Go By
set_option linter.unusedSimpArgs false
set_option linter.unusedVariables false
set_option maxRecDepth 10000

structure Dn where
  op : Int
  id : Int
  st : Sm
def dnC (d : Dn) : List AV := [.v (.int .i64 d.op), .v (.int .i64 d.id), .v (.string (strB d.st.text)), .sl 1 (enc intC d.st.oids) none .no]
def shortD (d : Dn) : Bool := decide (d.st.text.length ≤ 300) && decide (d.st.oids.length ≤ 20)
def fewD (l : List Dn) : Bool := decide (l.length ≤ 60) && l.all shortD
@[simp] theorem dnC_lt (n : Nat) (l : List Dn) : ltLL n (enc dnC l) := ltLL_of' fun j c hc => by
  obtain ⟨b, _, rfl⟩ := List.mem_map.1 (List.mem_of_getElem? hc)
  simp [dnC]
theorem dfew_c (l : List Dn) (h : List (List AV)) : Contract Try.prog 18 [.sl 4 (enc dnC l) none .no] h (.v (.bool (fewD l))) h [] := by
  refine contract_of k18 mixed (by simp [c18]) fun hh hargs => ?_
  simp [c18]
  refine xloop_ok (D := Nat) (fun j => ⟨[(5, .sl 4 (enc dnC l) none .no), (6, .v (.int .i64 (l.length : Int))), (7, .v (.int .i64 (j : Int)))], [], h, []⟩) (fun j => j ≤ l.length ∧ j ≤ 60 ∧ (l.take j).all shortD = true) (fun j => l.length - j) 0 ⟨by omega, by omega, by simp⟩ ?_ ?_
  · simp [Leq, hh]
    done
  · rintro j ⟨hj, h60, hs⟩
    by_cases hlt : j < l.length
    · have hw : IntKind.i64.wrap ((j : Int) + 1) = (j : Int) + 1 := wrap64 (by omega) (by omega)
      by_cases h6 : j = 60
      · have hf : fewD l = false := by unfold fewD; rw [decide_eq_false (by omega)]; rfl
        have e : (60 : Int) ≤ (j : Int) := by omega
        simp [hlt, dnC, e, hf, hh]
        done
      · have e : ¬ (60 : Int) ≤ (j : Int) := by omega
        have hnext : (l.take (j + 1)).all shortD = shortD l[j] := by
          rw [List.take_succ_eq_append_getElem hlt, List.all_append, hs]; simp
        by_cases h1 : (300 : Int) < (l[j].st.text.length : Int)
        · have hf : fewD l = false := by
            unfold fewD
            have : l.all shortD = false := by
              rw [List.all_eq_false]
              exact ⟨l[j], List.getElem_mem hlt, by unfold shortD; rw [decide_eq_false (by omega)]; simp⟩
            rw [this, Bool.and_false]
          simp [hlt, dnC, e, h1, hf, hh]
          done
        · by_cases h2 : (20 : Int) < (l[j].st.oids.length : Int)
          · have hf : fewD l = false := by
              unfold fewD
              have : l.all shortD = false := by
                rw [List.all_eq_false]
                exact ⟨l[j], List.getElem_mem hlt, by unfold shortD; rw [decide_eq_false (p := l[j].st.oids.length ≤ 20) (by omega)]; simp⟩
              rw [this, Bool.and_false]
            simp [hlt, dnC, e, h1, h2, hf, hh]
            done
          · have hsh : shortD l[j] = true := by unfold shortD; rw [decide_eq_true (by omega), decide_eq_true (by omega)]; rfl
            simp [hlt, dnC, e, h1, h2, hw]
            refine ⟨j + 1, ⟨by omega, by omega, List.all_eq_true.1 (by rw [hnext]; exact hsh)⟩, by omega, ?_⟩
            simp [Leq, hh]
            done
    · have : j = l.length := by omega
      subst this
      rw [List.take_length] at hs
      have hf : fewD l = true := by unfold fewD; rw [hs, decide_eq_true (by omega)]; rfl
      simp [hf, hh]
      done
def aSm : Sm := ⟨[97], []⟩
theorem aSm_ok : keyable aSm = true := by decide +kernel
theorem aSm_len : (keyB aSm).length ≤ 100000 := keyB_size (by decide +kernel)
theorem dawake_c (h : List (List AV)) : Contract Try.prog 17 [] h (.v (.bool true)) h [] := by
  refine contract_of k17 mixed (by simp [c17]) fun hh hargs => ?_
  simp [c17]
  refine xcall_self (by simp) (gnew_c h) ?_
  have hlen : (newH h).length = h.length + 3 := by simp [newH]
  simp [hlen]
  obtain ⟨m, hm⟩ : ∃ m, m = aSm := ⟨_, rfl⟩
  have hmk : keyable m = true := by rw [hm]; exact aSm_ok
  have hmb : (keyB m).length ≤ 100000 := by rw [hm]; exact aSm_len
  have hms : m.text.length ≤ 300 ∧ m.oids.length ≤ 20 := by rw [hm]; simp [aSm]
  have hml : m.oids.length ≤ 140737488355328 := by omega
  obtain ⟨A, hA⟩ : ∃ A : List AV, A = [.v (.string (strB [97])), .sl 0 [] (some true) .exact] := ⟨_, rfl⟩
  have r0 := (newH_at hh).app [A] (by rw [hA]; simp)
  have o0 := newH_ok h
  obtain ⟨h1, ct1, r1, l1, kp1, _⟩ := gput_c r0 o0 (by omega) m hml hmb
  have o1 := o0.put m hms ((newH h ++ [A]).length + 2)
  have b0 : (newH h ++ [A])[h.length + 3]? = some A := by rw [List.getElem?_append_right (by omega), hlen]; simp
  have b1 : h1[h.length + 3]? = some A := by rw [kp1 _ (by simp [hlen]) (by simp [Rg.touch])]; exact b0
  have q0 : (⟨h.length, h.length + 1, 0, []⟩ : Rg).putId m = 1 := by simp [Rg.putId, hmk, Rg.findS]
  have q1 : (⟨h.length, h.length + 1, 0, []⟩ : Rg).put m ((newH h ++ [A]).length + 2) = ⟨h.length, h.length + 1, 1, [⟨1, 1, m, (newH h ++ [A]).length + 2⟩]⟩ := by simp [Rg.put, hmk, Rg.putS, Rg.findS, Rg.add, Rg.upd]
  rw [q1] at r1 o1
  rw [q0] at ct1
  obtain ⟨nb, hnb⟩ : ∃ nb, nb = (newH h ++ [A]).length + 2 := ⟨_, rfl⟩
  rw [← hnb] at r1 o1
  obtain ⟨h2, ct2, r2, l2, kp2, _⟩ := gput_c r1 o1 (by omega) m hml hmb
  have o2 := o1.put m hms (h1.length + 2)
  have hl1 : h.length + 3 < h1.length := by simp [hlen] at l1; omega
  have hnb2 : nb ≠ h.length + 3 := by rw [hnb]; simp [hlen]
  have b2 : h2[h.length + 3]? = some A := by rw [kp2 _ hl1 (by simp [Rg.touch]; omega)]; exact b1
  have q2 : (⟨h.length, h.length + 1, 1, [⟨1, 1, m, nb⟩]⟩ : Rg).putId m = 1 := by simp [Rg.putId, hmk, Rg.findS]
  have q3 : (⟨h.length, h.length + 1, 1, [⟨1, 1, m, nb⟩]⟩ : Rg).put m (h1.length + 2) = ⟨h.length, h.length + 1, 1, [⟨1, 2, m, nb⟩]⟩ := by simp [Rg.put, hmk, Rg.putS, Rg.findS, Rg.upd]
  rw [q3] at r2 o2
  rw [q2] at ct2
  have ct3 := grefs_c r2 1
  have q4 : refsOf ((⟨h.length, h.length + 1, 1, [⟨1, 2, m, nb⟩]⟩ : Rg).find 1) = 2 := by simp [Rg.find, refsOf]
  rw [q4] at ct3
  obtain ⟨h4, ct4, r4, l4, kp4, _⟩ := gdrop_c r2 o2 (by omega) 1
  have o4 := o2.drop 1
  have b4 : h4[h.length + 3]? = some A := by rw [kp4 _ (by omega) (by simp [Rg.touch]; omega)]; exact b2
  have q5 : ((⟨h.length, h.length + 1, 1, [⟨1, 2, m, nb⟩]⟩ : Rg).find 1).isSome = true := by simp [Rg.find]
  have q6 : (⟨h.length, h.length + 1, 1, [⟨1, 2, m, nb⟩]⟩ : Rg).drop 1 = ⟨h.length, h.length + 1, 1, [⟨1, 1, m, nb⟩]⟩ := by simp [Rg.drop, Rg.find, Rg.upd]
  rw [q6] at r4 o4
  rw [q5] at ct4
  obtain ⟨h5, ct5, r5, l5, kp5, _⟩ := gdrop_c r4 o4 (by omega) 1
  have o5 := o4.drop 1
  have b5 : h5[h.length + 3]? = some A := by rw [kp5 _ (by omega) (by simp [Rg.touch]; omega)]; exact b4
  have q7 : ((⟨h.length, h.length + 1, 1, [⟨1, 1, m, nb⟩]⟩ : Rg).find 1).isSome = true := by simp [Rg.find]
  have q8 : (⟨h.length, h.length + 1, 1, [⟨1, 1, m, nb⟩]⟩ : Rg).drop 1 = ⟨h.length, h.length + 1, 1, []⟩ := by simp [Rg.drop, Rg.find, Rg.del]
  rw [q8] at r5 o5
  rw [q7] at ct5
  obtain ⟨h6, ct6, r6, l6, kp6, _⟩ := gdrop_c r5 o5 (by omega) 1
  have o6 := o5.drop 1
  have b6 : h6[h.length + 3]? = some A := by rw [kp6 _ (by omega) (by simp [Rg.touch])]; exact b5
  have q9 : ((⟨h.length, h.length + 1, 1, []⟩ : Rg).find 1).isSome = false := by simp [Rg.find]
  have q10 : (⟨h.length, h.length + 1, 1, []⟩ : Rg).drop 1 = ⟨h.length, h.length + 1, 1, []⟩ := by simp [Rg.drop, Rg.find]
  rw [q10] at r6 o6
  rw [q9] at ct6
  obtain ⟨h7, ct7, r7, l7, kp7, _⟩ := gput_c r6 o6 (by omega) m hml hmb
  have q11 : (⟨h.length, h.length + 1, 1, []⟩ : Rg).putId m = 2 := by simp [Rg.putId, hmk, Rg.findS]
  rw [q11] at ct7
  have hsm : smC m = [.v (.string (strB [97])), .sl 1 (enc intC []) none .no] := by rw [hm, smC_mk]; rfl
  rw [hsm] at ct1 ct2 ct7
  rw [hA] at ct1 b1 b2 b4 b5 b6
  refine xcall_of ct1 (by simp) (by simp) ?_
  simp [b1]
  refine xcall_of ct2 (by simp) (by simp) ?_
  simp [b2]
  refine xcall_self (by simp) ct3 ?_
  simp [b2]
  refine xcall_self (by simp) ct4 ?_
  simp [b4]
  refine xcall_self (by simp) ct5 ?_
  simp [b5]
  refine xcall_self (by simp) ct6 ?_
  simp [b6]
  refine xcall_of ct7 (by simp) (by simp) ?_
  simp [hh]
  have hnb3 : h.length ≤ nb := by rw [hnb]; simp [hlen]; omega
  have hlow : ∀ k, k < h.length → h7[k]? = h[k]? := fun k hk => by
    rw [kp7 k (by omega) (by simp [Rg.touch]; omega), kp6 k (by omega) (by simp [Rg.touch]; omega), kp5 k (by omega) (by simp [Rg.touch]; omega), kp4 k (by omega) (by simp [Rg.touch]; omega), kp2 k (by omega) (by simp [Rg.touch]; omega), kp1 k (by simp [hlen]; omega) (by simp [Rg.touch]; omega)]
    rw [List.getElem?_append_left (by omega)]
    exact List.getElem?_append_left hk
  have htake : h7.take h.length = h := List.ext_getElem? fun k => by
    by_cases hk : k < h.length
    · rw [List.getElem?_take_of_lt hk]; exact hlow k hk
    · rw [List.getElem?_eq_none (by rw [List.length_take]; omega), List.getElem?_eq_none (by omega)]
  refine ⟨by omega, by rw [htake]; exact leqH_refl _ _, fun j hj => ?_⟩
  simp [Rg.touch] at hj
  omega
end Go.Proofs.Ytngkdlfgmpflnaa.Ax
/- Layer 14's statement: no two ids have one statement. -/
namespace Go.Proofs.Ytngkdlfgmpflnaa.Ax
open Go.RowKit Go By
set_option linter.unusedSimpArgs false
set_option linter.unusedVariables false
set_option maxRecDepth 10000

theorem findS_st {n : Nat} {R : Rg} (ho : RgOk n R) {s : Sl} (hs : s ∈ R.l) : R.findS s.st = some s := by
  cases hf : R.findS s.st with
  | none =>
    unfold Rg.findS at hf
    have := List.find?_eq_none.1 hf s hs
    simp at this
  | some t =>
    have := findS_mem hf
    rw [map_inj_mem ho.one this.1 hs this.2]
theorem idAt_some {n : Nat} {R : Rg} (ho : RgOk n R) {j : Nat} (hj : j < R.ids.length) : ∃ s ∈ R.l, R.idAt j = (s.id : Int) ∧ R.find (R.idAt j) = some s := by
  have hj2 : j < R.l.length := by unfold Rg.ids at hj; simpa using hj
  have e : R.idAt j = ((R.l[j]).id : Int) := by
    unfold Rg.idAt intsN Rg.ids
    simp [List.getD_eq_getElem?_getD, hj2]
  refine ⟨R.l[j], List.getElem_mem hj2, e, ?_⟩
  rw [e]
  exact find_id ho (List.getElem_mem hj2)
theorem upd_boxes_mem {R : Rg} {id k i x : Nat} : x ∈ (R.upd id k).touch i ↔ x ∈ R.touch i := by rw [Rg.upd_touch]
theorem ref_touch {R : Rg} {id : Int} {i x : Nat} (h : x ∈ (R.ref id).touch i) : x ∈ R.touch i := by
  unfold Rg.ref at h
  cases hs : R.find id with
  | none => rw [hs] at h; exact h
  | some s => rw [hs] at h; exact upd_boxes_mem.1 h
theorem del_touch {R : Rg} {id i x : Nat} (h : x ∈ (R.del id).touch i) : x ∈ R.touch i := by
  have hsub : ((R.del id).l.map Sl.box).Sublist (R.l.map Sl.box) := (List.eraseP_sublist ..).map _
  have h : x ∈ i :: R.a :: R.b :: (R.del id).l.map Sl.box := h
  simp only [List.mem_cons] at h
  unfold Rg.touch
  simp only [List.mem_cons]
  rcases h with h | h | h | h
  · exact .inl h
  · exact .inr (.inl h)
  · exact .inr (.inr (.inl h))
  · exact .inr (.inr (.inr (hsub.subset h)))
theorem drop_touch {R : Rg} {id : Int} {i x : Nat} (h : x ∈ (R.drop id).touch i) : x ∈ R.touch i := by
  unfold Rg.drop at h
  cases hs : R.find id with
  | none => rw [hs] at h; exact h
  | some s =>
    rw [hs] at h
    by_cases h2 : s.refs = 1
    · simp only [if_pos h2] at h; exact del_touch h
    · simp only [if_neg h2] at h; exact upd_boxes_mem.1 h
theorem put_touch {R : Rg} {m : Sm} {nb i x : Nat} (h : x ∈ (R.put m nb).touch i) : x ∈ R.touch i ∨ x = nb := by
  unfold Rg.put at h
  by_cases hk : keyable m = true
  · rw [if_pos hk] at h
    unfold Rg.putS at h
    cases hs : R.findS m with
    | some s => rw [hs] at h; exact .inl (upd_boxes_mem.1 h)
    | none =>
      rw [hs] at h
      have h := upd_boxes_mem.1 h
      have h : x ∈ i :: R.a :: R.b :: (R.l ++ [(⟨R.last + 1, 0, m, nb⟩ : Sl)]).map Sl.box := h
      simp only [List.map_append, List.mem_cons, List.mem_append, List.map_cons, List.map_nil, List.not_mem_nil, or_false] at h
      unfold Rg.touch
      simp only [List.mem_cons]
      rcases h with h | h | h | h | h
      · exact .inl (.inl h)
      · exact .inl (.inr (.inl h))
      · exact .inl (.inr (.inr (.inl h)))
      · exact .inl (.inr (.inr (.inr h)))
      · exact .inr h
  · rw [if_neg hk] at h; exact .inl h
theorem shortD_iff {d : Dn} : shortD d = true ↔ d.st.text.length ≤ 300 ∧ d.st.oids.length ≤ 20 := by unfold shortD; simp
theorem fewK_of {m : Sm} (h : m.text.length ≤ 300 ∧ m.oids.length ≤ 20) : fewK m = true := by
  unfold fewK
  simp
  omega
structure LO where
  H : List (List AV)
  R : Rg
  j : Nat
structure LO.Ok (l : List Dn) (d : LO) : Prop where
  le : d.j ≤ l.length
  reg : RegAt 1 d.H 3 d.R
  ok : RgOk d.j d.R
  box : d.H[4]? = some [.box 3 0]
  res : d.H[0]? = some [.v (.bool false)]
  out : 4 ∉ d.R.touch 3
  plain : plainH d.H
theorem gonce_c (l : List Dn) : Contract Try.prog 6 [.sl 4 (enc dnC l) none .no] [] (.v (.bool true)) [] [] := by
  refine contract_of k6 mixed (by simp [c6]) fun hh hargs => ?_
  simp [c6]
  refine xcall_self (by simp) (dawake_c _) ?_
  simp
  refine xcall_self (by simp) (dfew_c l _) ?_
  cases hf : fewD l with
  | false =>
    simp
    refine xcall_self (by simp) (dawake_c _) ?_
    simp
    done
  | true =>
  simp
  refine xcall_self (by simp) (gnew_c _) ?_
  have hfew : l.length ≤ 60 ∧ l.all shortD = true := by unfold fewD at hf; simpa using hf
  have r0 := newH_at (h := [[.v (.bool false)]]) (by simp)
  have o0 := newH_ok [[.v (.bool false)]]
  have hlen0 : (newH [[.v (.bool false)]]).length = 4 := by simp [newH]
  have r1 := r0.app [[.box 3 0]] (by simp [hlen0])
  simp [hlen0]
  refine xloop_ok (D := LO) (fun d => ⟨[(2, .box 0 0), (3, .box 4 0), (20, .sl 4 (enc dnC l) none .no), (21, .v (.int .i64 (l.length : Int))), (22, .v (.int .i64 (d.j : Int)))], [], d.H, []⟩) (LO.Ok l) (fun d => l.length - d.j) ⟨newH [[.v (.bool false)]] ++ [[.box 3 0]], ⟨1, 2, 0, []⟩, 0⟩ ⟨by simp, r1, o0, by simp [newH], by simp [newH], by simp [Rg.touch], ?_⟩ ?_ ?_
  · intro cs hcs c hc
    simp [newH] at hcs
    rcases hcs with rfl | rfl | rfl | rfl <;> simp [mapC] at hc
    · rw [hc]; rfl
    · rcases hc with rfl | rfl <;> rfl
    · rcases hc with rfl | rfl | rfl <;> rfl
    · rw [hc]; rfl
  · have := r1.lt
    simp [hlen0] at this
    simp [Leq, hlen0, this, leqH_take]
  · rintro ⟨H, R, j⟩ hd
    obtain ⟨hj, hr, ho, hbox, hres, hout, hpl⟩ := hd
    dsimp only at hj hr ho hbox hres hout hpl
    have g4 : ∀ xs, (H ++ xs)[4]? = some [.box 3 0] := fun xs => by rw [List.getElem?_append_left (List.getElem?_eq_some_iff.1 hbox).1]; exact hbox
    by_cases hlt : j < l.length
    · have hw : IntKind.i64.wrap ((j : Int) + 1) = (j : Int) + 1 := wrap64 (by omega) (by omega)
      have hsh := shortD_iff.1 (List.all_eq_true.1 hfew.2 l[j] (List.getElem_mem hlt))
      have hrA := hr.app [dnC l[j]] (by simp [dnC])
      have hplA : plainH (H ++ [dnC l[j]]) := plainH_append hpl fun x hx c hc => by
        rw [List.mem_singleton.1 hx] at hc
        simp [dnC] at hc
        rcases hc with rfl | rfl | rfl | rfl <;> rfl
      simp [hlt, dnC]
      by_cases hp : l[j].op = 0 ∨ l[j].op = 1 ∨ l[j].op = 2
      · obtain ⟨h', ct, hr', hl', hk', hpl'⟩ := gput_c hrA ho (by omega) l[j].st (by omega) (keyB_size (fewK_of hsh))
        have ho' := ho.put l[j].st hsh ((H ++ [dnC l[j]]).length + 2)
        have ht' : 4 ∉ (R.put l[j].st ((H ++ [dnC l[j]]).length + 2)).touch 3 := fun hx => by
          rcases put_touch hx with h1 | h1
          · exact hout h1
          · have := hr.i_lt; have := (List.getElem?_eq_some_iff.1 hbox).1; simp at h1; omega
        have hd' : LO.Ok l ⟨h', R.put l[j].st ((H ++ [dnC l[j]]).length + 2), j + 1⟩ := ⟨by show j + 1 ≤ l.length; omega, hr', ho', by show h'[4]? = _; rw [hk' 4 (by simp; have := (List.getElem?_eq_some_iff.1 hbox).1; omega) hout]; exact g4 _, by
          show h'[0]? = _
          rw [hk' 0 (by simp) (fun hx => by have := hr.low; simp [Rg.touch] at hx; rcases hx with h1 | h1 | ⟨s, h1, h2⟩; exact absurd this.2.1 (by omega); exact absurd this.2.2.1 (by omega); exact absurd (this.2.2.2 s h1) (by omega)), List.getElem?_append_left (List.getElem?_eq_some_iff.1 hres).1]
          exact hres, ht', hpl' hplA⟩
        rw [smC_mk] at ct
        simp only [dnC] at ct
        rcases hp with hp | hp | hp <;>
        · rw [hp] at ct
          simp [hp, g4]
          refine xcall_self (by simp) ct ?_
          simp [hw]
          refine ⟨_, hd', by show l.length - (j + 1) < l.length - j; omega, ?_⟩
          have := hr'.lt
          have h4 : 4 < h'.length := (List.getElem?_eq_some_iff.1 hd'.box).1
          simp [Leq, this, leqH_take]
          omega
      · have hp0 : ¬ l[j].op = 0 := fun h => hp (.inl h)
        have hp1 : ¬ l[j].op = 1 := fun h => hp (.inr (.inl h))
        have hp2 : ¬ l[j].op = 2 := fun h => hp (.inr (.inr h))
        have hkeep : ∀ {h' : List (List AV)}, (∀ k < (H ++ [dnC l[j]]).length, k ∉ R.touch 3 → h'[k]? = (H ++ [dnC l[j]])[k]?) → h'[4]? = some [.box 3 0] ∧ h'[0]? = some [.v (.bool false)] := fun {h'} hk' => by
          refine ⟨by rw [hk' 4 (by simp; have := (List.getElem?_eq_some_iff.1 hbox).1; omega) hout]; exact g4 _, ?_⟩
          rw [hk' 0 (by simp) (fun hx => by have := hr.low; simp [Rg.touch] at hx; rcases hx with h1 | h1 | ⟨s, h1, h2⟩; exact absurd this.2.1 (by omega); exact absurd this.2.2.1 (by omega); exact absurd (this.2.2.2 s h1) (by omega)), List.getElem?_append_left (List.getElem?_eq_some_iff.1 hres).1]
          exact hres
        by_cases hp3 : l[j].op = 3
        · obtain ⟨h', ct, hr', hl', hk', hpl'⟩ := gref_c hrA ho (by omega) l[j].id
          have hd' : LO.Ok l ⟨h', R.ref l[j].id, j + 1⟩ := ⟨by show j + 1 ≤ l.length; omega, hr', ho.ref _, (hkeep hk').1, (hkeep hk').2, fun hx => hout (ref_touch hx), hpl' hplA⟩
          simp only [dnC] at ct
          rw [hp3] at ct
          simp [hp3, g4]
          refine xcall_self (by simp) ct ?_
          simp [hw]
          refine ⟨_, hd', by show l.length - (j + 1) < l.length - j; omega, ?_⟩
          have := hr'.lt
          have h4 : 4 < h'.length := (List.getElem?_eq_some_iff.1 hd'.box).1
          simp [Leq, this, leqH_take]
          omega
        · obtain ⟨h', ct, hr', hl', hk', hpl'⟩ := gdrop_c hrA ho (by omega) l[j].id
          have hd' : LO.Ok l ⟨h', R.drop l[j].id, j + 1⟩ := ⟨by show j + 1 ≤ l.length; omega, hr', ho.drop _, (hkeep hk').1, (hkeep hk').2, fun hx => hout (drop_touch hx), hpl' hplA⟩
          simp only [dnC] at ct
          simp [hp0, hp1, hp2, hp3, g4]
          refine xcall_self (by simp) ct ?_
          simp [hw]
          refine ⟨_, hd', by show l.length - (j + 1) < l.length - j; omega, ?_⟩
          have := hr'.lt
          have h4 : 4 < h'.length := (List.getElem?_eq_some_iff.1 hd'.box).1
          simp [Leq, this, leqH_take]
          omega
    · have : j = l.length := by omega
      subst this
      have h5 := (List.getElem?_eq_some_iff.1 hbox).1
      have hi := hr.i_lt
      have hids : R.ids.length = R.l.length := by unfold Rg.ids; simp
      have hlast : R.ids.length ≤ 60 := by
        have := rising_len (k := 0) ho.rise (fun x hx => by obtain ⟨s, hs, rfl⟩ := List.mem_map.1 hx; have := ho.ids s hs; have := ho.last; exact ⟨by omega, by show s.id ≤ l.length; omega⟩)
        unfold Rg.ids
        omega
      have g0 : ∀ xs, (H ++ xs)[0]? = some [.v (.bool false)] := fun xs => by rw [List.getElem?_append_left (List.getElem?_eq_some_iff.1 hres).1]; exact hres
      simp [g4]
      refine xcall_self (by simp) (gall_c (by simp; omega)) ?_
      simp
      have hx : ∀ (xs : List (List AV)), ltLL (H.length + xs.length) xs → RegAt 1 (H ++ xs) 3 R := fun xs h => hr.app xs h
      have hHl : ltLL H.length H := hr.lt
      refine xrange_all (gall_iter (lo := 1) (i := 3) ho (by omega) (H.length + 1) (H.length + 3)) (fun j => H ++ [[.v (.int .i64 (j : Int))], [.box 3 0]]) [H.length, H.length + 2] (by simp) (by simp) (fun _ => by simp [XCode.okIn]) (fun _ => by simp [XCode.okIn]) (by simp) (fun j _ => by simp) (fun j _ => ⟨by simp, by simp, ?_, ?_⟩) ?_ (fun j hj => ⟨rfl, by simp [Rg.told], ?_⟩) ?_
      · show RegAt 1 ((H ++ [[.v (.int .i64 (j : Int))], [.box 3 0]]) ++ [lstate false false]) 3 R
        rw [List.append_assoc]
        exact hx _ (by simp [lstate]; omega)
      · show plainH ((H ++ [[.v (.int .i64 (j : Int))], [.box 3 0]]) ++ [lstate false false])
        refine plainH_append (plainH_append hpl ?_) ?_
        · intro cs hcs c hc
          simp at hcs
          rcases hcs with rfl | rfl <;> simp at hc <;> rw [hc] <;> rfl
        · intro cs hcs c hc
          rw [List.mem_singleton.1 hcs] at hc
          simp [lstate] at hc
          rcases hc with rfl | rfl <;> rfl
      · simp
        exact ⟨ltLL_mono (by omega) hHl, by omega⟩
      · obtain ⟨s, hs, he, hf2⟩ := idAt_some ho hj
        have hfs := findS_st ho hs
        have hrf := ho.refs s hs
        have hsl := ho.short s hs
        simp [Rg.told, g4]
        refine xcall_self (by simp) (gget_c (hx _ (by simp [lstate]; try omega)) ho _) ?_
        rw [hf2]
        simp [stOf, smC_mk, g4]
        refine xcall_self (by simp) (gfindS_c (hx _ (by simp [lstate]; try omega)) ho s.st (by omega)) ?_
        have hr1 : ¬ (s.refs : Int) < 1 := by omega
        have hw : IntKind.i64.wrap ((j : Int) + 1) = (j : Int) + 1 := wrap64 (by omega) (by omega)
        simp [hfs, idOfS, he, refsOf, hr1, hw]
        simp [rnd, stays, St.turn, ltLL_mono (Nat.le_add_right H.length 3) hHl]
        omega
      · simp [g4]
        refine xcall_self (by simp) (glen_c (hx _ (by simp; omega))) ?_
        simp [hids]
        refine xcall_self (by simp) (dawake_c _) ?_
        have g0e : ∀ (xs : List (List AV)) (hx : 0 < (H ++ xs).length), (H ++ xs)[0]'hx = [.v (.bool false)] := fun xs hx => by
          have := g0 xs
          rw [List.getElem?_eq_getElem hx] at this
          injection this
        simp [g0e]
        done
end Go.Proofs.Ytngkdlfgmpflnaa.Ax
/- Layer 14's statements: a registry that no call made; the shapes of what is handed in. -/
namespace Go.Proofs.Ytngkdlfgmpflnaa.Ax
open Go.RowKit Go By
set_option linter.unusedSimpArgs false
set_option linter.unusedVariables false
set_option maxRecDepth 10000

def OkDn (d : Dn) : Prop := (-9223372036854775808 ≤ d.op ∧ d.op ≤ 9223372036854775807) ∧ (-9223372036854775808 ≤ d.id ∧ d.id ≤ 9223372036854775807) ∧ OkSm d.st
theorem sh_dnC : Shape Try.prog 44 dnC OkDn :=
  Shape.map (shape_struct Try.underlying44 (by kernel_rfl) (shape_cons (k := 1) rfl (by kernel_rfl) sh_int (by kernel_rfl) (shape_cons (k := 1) rfl (by kernel_rfl) sh_int (by kernel_rfl) (shape_one (k := 2) rfl (by kernel_rfl) sh_smC)))) (fun p => ⟨p.1, p.2.1, p.2.2⟩) (fun p => by rw [smC_mk]; rfl) (fun _ h => h)
theorem sh_dnCL : Shape Try.prog 32 (fun l : List Dn => [.sl 4 (enc dnC l) none .no]) (fun l => l.length ≤ maxLen ∧ ∀ x ∈ l, OkDn x) := shape_slice Try.underlying32 (by kernel_rfl) (by decide) sh_dnC (fun _ => rfl)
theorem gonce_l (l : List Dn) (hl : l.length ≤ maxLen ∧ ∀ x ∈ l, OkDn x) : Contract Try.prog 6 [.sl 4 (enc dnC l) none .no] [] (.v (.bool true)) [] [] := gonce_c l

/-! ### A registry that no call made -/
def zeroR : List AV := [.v (.map none), .v (.map none), .v (.int .i64 0)]
section
variable {h : List (List AV)}
theorem nfind_c (id : Int) : Contract Try.prog 44 [.v (.pointer none), .v (.int .i64 id)] h (.v (.pointer none)) h [] := by
  refine contract_of k44 mixed (by simp [c44]) fun hh hargs => ?_
  simp [c44, hh]
theorem zfind_c {i : Nat} (hi : h[i]? = some zeroR) (id : Int) : Contract Try.prog 44 [.box i 0, .v (.int .i64 id)] h (.v (.pointer none)) h [] := by
  unfold zeroR at hi
  refine contract_of k44 mixed (by simp [c44]) fun hh hargs => ?_
  simp [c44, hi, hh]
theorem nget_c (id : Int) : Contract Try.prog 26 [.v (.pointer none), .v (.int .i64 id)] h (.tup [.agg (smC ⟨[], []⟩), .v (.bool false)]) h [] := by
  refine contract_of k26 mixed (by simp [c26]) fun hh hargs => ?_
  simp [c26]
  refine xcall_self (by simp) (nfind_c id) ?_
  simp [smC_mk, hh]
/-- A key is made of as many types as one likes. -/
theorem kofx_c (m : Sm) : Contract Try.prog 41 [.agg (smC m)] h (.v (.string (strB (keyB m)))) h [] := by
  by_cases hl : m.oids.length ≤ 65535
  · exact kof_c m (by omega) h
  · have hk : keyable m = false := by unfold keyable okList; rw [decide_eq_false (p := m.oids.length ≤ 65535) hl]; simp
    refine contract_of k41 mixed (by simp [c41]) fun hh hargs => ?_
    simp [c41]
    refine xcall_self (by simp) (fits_c _ _ _) ?_
    have h2 : ¬ (m.oids.length : Int) ≤ 65535 := by omega
    simp [hh, keyB, hk, h2]
theorem zfindS_c {i : Nat} (hi : h[i]? = some zeroR) (m : Sm) : Contract Try.prog 28 [.box i 0, .agg (smC m)] h (.tup [.v (.int .i64 0), .v (.bool false)]) h [] := by
  have hlt := (List.getElem?_eq_some_iff.1 hi).1
  have g1 : ∀ xs, (h ++ xs)[i]? = some [.v (.map none), .v (.map none), .v (.int .i64 0)] := fun xs => by rw [List.getElem?_append_left hlt]; exact hi
  refine contract_of k28 mixed (by simp [c28]) fun hh hargs => ?_
  simp [c28, g1]
  refine xcall_self (by simp) (kofx_c m) ?_
  simp [hh]
theorem nall_c : Contract Try.prog 34 [.v (.pointer none)] h (.fn (.func 48) [] [.box h.length 0]) (h ++ [[.v (.pointer none)]]) [] := by
  refine contract_of k34 mixed (by simp [c34]) fun hh hargs => ?_
  simp [c34, hh]
theorem nrising_c : Contract Try.prog 49 [.v (.pointer none)] h (.sl 1 [] none .no) h [] := by
  refine contract_of k49 mixed (by simp [c49]) fun hh hargs => ?_
  simp [c49, hh]
theorem nall_iter (i0 : Nat) (xs : Nat → List AV) : Iter Try.prog 48 [.box i0 0] 0 xs true (fun H => H[i0]? = some [.v (.pointer none)] ∧ ltLL H.length H) := by
  intro iy r c slots H wr hR hY
  obtain ⟨h1, h2⟩ := hR 0 (by omega)
  refine contract_of k48 mixed (by simp [c48]) fun hh hargs => ?_
  simp at hargs
  simp [c48, h1]
  refine xcall_self (by simp) nrising_c ?_
  simp
  refine xloop_ok (D := Unit) (fun _ => ⟨[(7, .v (.int .i64 0)), (8, .v (.int .i64 0))], [], H 0, []⟩) (fun _ => True) (fun _ => 0) () trivial ?_ ?_
  · simp [Leq, hh, leqH_take]
  · intro _ _
    simp [h2, leqH_take]
theorem nput_c (m : Sm) : Contract Try.prog 20 [.v (.pointer none), .agg (smC m)] h (.v (.int .i64 0)) h [] := by
  refine contract_of k20 mixed (by simp [c20]) fun hh hargs => ?_
  simp [c20, hh]
theorem zput_c {i : Nat} (hi : h[i]? = some zeroR) (m : Sm) : Contract Try.prog 20 [.box i 0, .agg (smC m)] h (.v (.int .i64 0)) h [] := by
  have hlt := (List.getElem?_eq_some_iff.1 hi).1
  have g1 : ∀ xs, (h ++ xs)[i]? = some [.v (.map none), .v (.map none), .v (.int .i64 0)] := fun xs => by rw [List.getElem?_append_left hlt]; exact hi
  refine contract_of k20 mixed (by simp [c20]) fun hh hargs => ?_
  simp [c20, g1, hh]
theorem nref_c (id : Int) : Contract Try.prog 22 [.v (.pointer none), .v (.int .i64 id)] h (.v (.bool false)) h [] := by
  refine contract_of k22 mixed (by simp [c22]) fun hh hargs => ?_
  simp [c22]
  refine xcall_self (by simp) (nfind_c id) ?_
  simp [hh]
theorem zdrop_c {i : Nat} (hi : h[i]? = some zeroR) (id : Int) : Contract Try.prog 24 [.box i 0, .v (.int .i64 id)] h (.v (.bool false)) h [] := by
  refine contract_of k24 mixed (by simp [c24]) fun hh hargs => ?_
  simp [c24]
  refine xcall_self (by simp) (zfind_c hi id) ?_
  simp [hh]
theorem nrefs_c (id : Int) : Contract Try.prog 31 [.v (.pointer none), .v (.int .i64 id)] h (.v (.int .i64 0)) h [] := by
  refine contract_of k31 mixed (by simp [c31]) fun hh hargs => ?_
  simp [c31]
  refine xcall_self (by simp) (nfind_c id) ?_
  simp [hh]
theorem zlen_c {i : Nat} (hi : h[i]? = some zeroR) : Contract Try.prog 35 [.box i 0] h (.v (.int .i64 0)) h [] := by
  unfold zeroR at hi
  refine contract_of k35 mixed (by simp [c35]) fun hh hargs => ?_
  simp [c35, hi, hh]
end
theorem gnobody_c (m : Sm) (id : Int) (hm : OkSm m) : Contract Try.prog 7 [.agg (smC m), .v (.int .i64 id)] [] (.v (.bool true)) [] [] := by
  refine contract_of k7 mixed (by simp [c7]) fun hh hargs => ?_
  simp [c7]
  refine xcall_self (by simp) (dawake_c _) ?_
  simp
  refine xcall_self (by simp) (nget_c id) ?_
  simp [smC_mk]
  refine xcall_self (by simp) (zfindS_c (by simp [zeroR]) m) ?_
  simp
  refine xcall_self (by simp) nall_c ?_
  simp
  refine xrange_all (nall_iter 4 (fun _ => [])) (fun _ => _) [] (by simp) (by simp) (fun _ => by simp [XCode.okIn]) (fun _ => by simp [XCode.okIn]) rfl (fun _ _ => rfl) (fun _ _ => ⟨by simp, by simp [lstate]⟩) (by simp) (fun j hj => absurd hj (by omega)) ?_
  simp
  refine xcall_self (by simp) (nput_c m) ?_
  simp
  refine xcall_self (by simp) (zput_c (by simp [zeroR]) m) ?_
  simp
  refine xcall_self (by simp) (nref_c id) ?_
  simp
  refine xcall_self (by simp) (zdrop_c (by simp [zeroR]) id) ?_
  simp
  refine xcall_self (by simp) (nrefs_c id) ?_
  simp
  refine xcall_self (by simp) (zlen_c (by simp [zeroR])) ?_
  simp
  refine xcall_self (by simp) (dawake_c _) ?_
  simp
  done
end Go.Proofs.Ytngkdlfgmpflnaa.Ax
/- The document's registry over values without memory: a list in a cell, whose elements change. -/
namespace Go.Proofs.Ytngkdlfgmpflnaa.Ax
open Go.RowKit Go By
set_option linter.unusedSimpArgs false
set_option linter.unusedVariables false
set_option maxRecDepth 10000

def slC (s : Sl) : List AV := [.v (.int .i64 (s.id : Int)), .v (.int .i64 (s.refs : Int)), .v (.string (strB s.st.text)), .sl 1 (enc intC s.st.oids) none .no]
/-- The list's slice: nil, or a variable's. -/
def lisA (b : Nat) (l : List Sl) : AV := if l = [] then .sl 0 [] (some true) .exact else .bsl b 0 4 l.length
structure XAt (lo : Nat) (h : List (List AV)) (i b : Nat) (R : Rg) : Prop where
  top : h[i]? = some [lisA b R.l, .v (.int .i64 (R.last : Int))]
  list : R.l ≠ [] → h[b]? = some (enc slC R.l).flatten
  low : lo ≤ i ∧ lo ≤ b
  apart : i ≠ b
  lt : ltLL h.length h
theorem XAt.move {lo : Nat} {h : List (List AV)} {i b : Nat} {R : Rg} (hr : XAt lo h i b R) {h' : List (List AV)} (hi : h'[i]? = h[i]?) (hb : R.l ≠ [] → h'[b]? = h[b]?) (hlt : ltLL h'.length h') : XAt lo h' i b R :=
  ⟨hi.trans hr.top, fun hne => (hb hne).trans (hr.list hne), hr.low, hr.apart, hlt⟩
theorem XAt.app {lo : Nat} {h : List (List AV)} {i b : Nat} {R : Rg} (hr : XAt lo h i b R) (xs : List (List AV)) (hx : ltLL (h.length + xs.length) xs) : XAt lo (h ++ xs) i b R :=
  hr.move (List.getElem?_append_left (List.getElem?_eq_some_iff.1 hr.top).1) (fun hne => List.getElem?_append_left (List.getElem?_eq_some_iff.1 (hr.list hne)).1) (by rw [ltLL_append, List.length_append]; exact ⟨ltLL_mono (Nat.le_add_right _ _) hr.lt, hx⟩)
theorem slC_len (s : Sl) : (slC s).length = 4 := rfl
theorem encS_len (l : List Sl) : (enc slC l).flatten.length = 4 * l.length := by
  induction l with
  | nil => rfl
  | cons x l ih =>
    have e : enc slC (x :: l) = slC x :: enc slC l := rfl
    rw [e, List.flatten_cons, List.length_append, ih, slC_len, List.length_cons]; omega
theorem encS_at : ∀ {l : List Sl} {j q : Nat} (hj : j < l.length) (hq : q < 4), (enc slC l).flatten[4 * j + q]? = (slC l[j])[q]?
  | x :: l, 0, q, _, hq => by
    have e : enc slC (x :: l) = slC x :: enc slC l := rfl
    rw [e, List.flatten_cons, List.getElem?_append_left (by rw [slC_len]; omega)]
    simp
  | x :: l, j + 1, q, hj, hq => by
    have e : enc slC (x :: l) = slC x :: enc slC l := rfl
    rw [e, List.flatten_cons, List.getElem?_append_right (by rw [slC_len]; omega), slC_len, show 4 * (j + 1) + q - 4 = 4 * j + q by omega]
    rw [encS_at (by simpa using hj) hq]
    simp
theorem rise_inj {n : Nat} {R : Rg} (ho : RgOk n R) {j k : Nat} (hj : j < R.l.length) (hk : k < R.l.length) (e : R.l[j].id = R.l[k].id) : j = k := by
  have h := List.pairwise_iff_getElem.1 ho.rise
  rcases Nat.lt_trichotomy j k with h1 | h1 | h1
  · have := h j k (by simpa using hj) (by simpa using hk) h1
    simp at this; omega
  · exact h1
  · have := h k j (by simpa using hk) (by simpa using hj) h1
    simp at this; omega
/-- Where an id stands. -/
inductive PlI (R : Rg) (id : Int) : Int → Option Sl → Prop
  | at_ (k : Nat) (hk : k < R.l.length) (he : (R.l[k].id : Int) = id) : PlI R id (k : Int) (some R.l[k])
  | none (h : ∀ s ∈ R.l, ¬ (s.id : Int) = id) : PlI R id (-1) none
theorem pl_find {n : Nat} {R : Rg} (ho : RgOk n R) (id : Int) : ∃ v, PlI R id v (R.find id) := by
  cases hf : R.find id with
  | none =>
    unfold Rg.find at hf
    exact ⟨-1, .none fun s hs => by have := List.find?_eq_none.1 hf s hs; simpa using this⟩
  | some s =>
    obtain ⟨h1, h2⟩ := find_mem hf
    obtain ⟨k, hk, e⟩ := List.getElem_of_mem h1
    subst e
    exact ⟨k, .at_ k hk h2⟩
section
variable {lo : Nat} {h : List (List AV)} {i b : Nat} {R : Rg}
theorem xplace_c (hr : XAt lo h i b R) {n : Nat} (ho : RgOk n R) (hn : R.l.length ≤ 1000) {id v : Int} {o : Option Sl} (hv : PlI R id v o) : Contract Try.prog 45 [.box i 0, .v (.int .i64 id)] h (.v (.int .i64 v)) h [] := by
  have h1 := hr.top
  refine contract_of k45 mixed (by simp [c45]) fun hh hargs => ?_
  simp [c45]
  refine xloop_ok (D := Nat) (fun j => ⟨[(0, .box i 0), (1, .v (.int .i64 id)), (5, .v (.int .i64 (j : Int)))], [], h, []⟩) (fun j => j ≤ R.l.length ∧ (∀ q (hq : q < R.l.length), q < j → ¬ (R.l[q].id : Int) = id)) (fun j => R.l.length - j) 0 ⟨by omega, fun q hq h => by omega⟩ ?_ ?_
  · have hi := (List.getElem?_eq_some_iff.1 h1).1
    simp [Leq, hh, leqH_take, hi]
    done
  · rintro j ⟨hj, hno⟩
    by_cases hlt : j < R.l.length
    · have hne : R.l ≠ [] := fun e => by rw [e] at hlt; cases hlt
      have h2 := hr.list hne
      have hlis : lisA b R.l = .bsl b 0 4 R.l.length := by unfold lisA; rw [if_neg hne]
      rw [hlis] at h1
      have hc0 : (enc slC R.l).flatten[j * 4]? = some (.v (.int .i64 (R.l[j].id : Int))) := by
        have := encS_at hlt (q := 0) (by omega)
        rw [Nat.add_zero, Nat.mul_comm] at this
        rw [this]; rfl
      have hw : IntKind.i64.wrap ((j : Int) + 1) = (j : Int) + 1 := wrap64 (by omega) (by omega)
      by_cases e : (R.l[j].id : Int) = id
      · have hvj : v = (j : Int) := by
          cases hv with
          | at_ k hk he => rw [rise_inj ho hk hlt (by omega)]
          | none hh => exact absurd e (hh _ (List.getElem_mem hlt))
        simp [h1, h2, hlt, hc0, e, hvj, hh]
        done
      · simp [h1, h2, hlt, hc0, e, hw]
        refine ⟨j + 1, ⟨by omega, fun q hq hqj => ?_⟩, by omega, ?_⟩
        · rcases Nat.lt_succ_iff_lt_or_eq.1 hqj with h3 | h3
          · exact hno q hq h3
          · subst h3; exact e
        · have hi := (List.getElem?_eq_some_iff.1 hr.top).1
          simp [Leq, hh, leqH_take, hi]
    · have : j = R.l.length := by omega
      subst this
      have hp : v = -1 := by
        cases hv with
        | at_ k hk he => exact absurd he (hno k hk hk)
        | none hh => rfl
      subst hp
      by_cases hl : R.l = []
      · have hlis : lisA b R.l = .sl 0 [] (some true) .exact := by unfold lisA; rw [if_pos hl]
        rw [hlis] at h1
        simp [h1, hh, hl]
        done
      · have hlis : lisA b R.l = .bsl b 0 4 R.l.length := by unfold lisA; rw [if_neg hl]
        rw [hlis] at h1
        simp [h1, hh]
        done
theorem XAt.el (hr : XAt lo h i b R) {k : Nat} (hk : k < R.l.length) : h[i]? = some [.bsl b 0 4 R.l.length, .v (.int .i64 (R.last : Int))] ∧ h[b]? = some (enc slC R.l).flatten ∧ (enc slC R.l).flatten[k * 4]? = some (.v (.int .i64 (R.l[k].id : Int))) ∧ (enc slC R.l).flatten[k * 4 + 1]? = some (.v (.int .i64 (R.l[k].refs : Int))) ∧ (enc slC R.l).flatten.length = 4 * R.l.length := by
  have hne : R.l ≠ [] := fun e => by rw [e] at hk; cases hk
  have h1 := hr.top
  have hlis : lisA b R.l = .bsl b 0 4 R.l.length := by unfold lisA; rw [if_neg hne]
  rw [hlis] at h1
  have e0 := encS_at hk (q := 0) (by omega)
  have e1 := encS_at hk (q := 1) (by omega)
  rw [Nat.add_zero, Nat.mul_comm] at e0
  rw [Nat.mul_comm] at e1
  exact ⟨h1, hr.list hne, e0, e1, encS_len _⟩
theorem encS_st {l : List Sl} {k : Nat} (hk : k < l.length) : ((enc slC l).flatten.drop (k * 4 + 2)).take 2 = smC l[k].st := by
  have e2 := encS_at hk (q := 2) (by omega)
  have e3 := encS_at hk (q := 3) (by omega)
  have hl := encS_len l
  rw [Nat.mul_comm] at e2 e3
  refine List.ext_getElem? fun j => ?_
  rw [smC_mk]
  rcases j with _ | _ | j
  · rw [List.getElem?_take_of_lt (by omega), List.getElem?_drop, Nat.add_zero, e2]; rfl
  · rw [List.getElem?_take_of_lt (by omega), List.getElem?_drop, show k * 4 + 2 + (0 + 1) = k * 4 + 3 by omega, e3]; rfl
  · rw [List.getElem?_eq_none (by rw [List.length_take]; omega), List.getElem?_eq_none (by simp)]
theorem xrefs_c (hr : XAt lo h i b R) {n : Nat} (ho : RgOk n R) (hn : R.l.length ≤ 1000) (id : Int) : Contract Try.prog 32 [.box i 0, .v (.int .i64 id)] h (.v (.int .i64 (refsOf (R.find id) : Int))) h [] := by
  obtain ⟨v, hv⟩ := pl_find ho id
  refine contract_of k32 mixed (by simp [c32]) fun hh hargs => ?_
  simp [c32]
  refine xcall_self (by simp) (xplace_c hr ho hn hv) ?_
  generalize R.find id = o at *
  cases hv with
  | at_ k hk he =>
    obtain ⟨e1, e2, e3, e4, e5⟩ := hr.el hk
    simp [e1, e2, e4, hk, refsOf, hh]
    done
  | none hno =>
    simp [refsOf, hh]
    done
theorem xget_c (hr : XAt lo h i b R) {n : Nat} (ho : RgOk n R) (hn : R.l.length ≤ 1000) (id : Int) : Contract Try.prog 27 [.box i 0, .v (.int .i64 id)] h (.tup [.agg (smC (stOf (R.find id))), .v (.bool (R.find id).isSome)]) h [] := by
  obtain ⟨v, hv⟩ := pl_find ho id
  have hi := (List.getElem?_eq_some_iff.1 hr.top).1
  refine contract_of k27 mixed (by simp [c27]) fun hh hargs => ?_
  simp [c27]
  have hr2 : XAt lo (h ++ [[.v (.string (strB [])), .sl 0 [] (some true) .exact]]) i b R := hr.app _ (by simp)
  refine xcall_self (by simp) (xplace_c hr2 ho hn hv) ?_
  generalize R.find id = o at *
  cases hv with
  | at_ k hk he =>
    obtain ⟨e1, e2, e3, e4, e5⟩ := hr2.el hk
    have e6 := encS_st hk
    have hb := (List.getElem?_eq_some_iff.1 (hr.el hk).2.1).1
    have hne : ¬ b = h.length := by omega
    have e7 : (List.map List.length (enc slC R.l)).sum = 4 * R.l.length := by rw [← List.length_flatten]; exact e5
    simp [e1, e2, hk, e6, stOf, hh, hne, e7]
    omega
  | none hno =>
    simp [stOf, smC_mk, hh]
    done
end
end Go.Proofs.Ytngkdlfgmpflnaa.Ax
/- The document's registry over values without memory: the calls that change it. -/
namespace Go.Proofs.Ytngkdlfgmpflnaa.Ax
open Go.RowKit Go By
set_option linter.unusedSimpArgs false
set_option linter.unusedVariables false
set_option maxRecDepth 10000

theorem encS_set : ∀ {l : List Sl} {k : Nat} (hk : k < l.length) (m : Nat), (enc slC l).flatten.set (k * 4 + 1) (.v (.int .i64 (m : Int))) = (enc slC (l.set k { l[k] with refs := m })).flatten
  | x :: l, 0, _, m => by
    have e : enc slC (x :: l) = slC x :: enc slC l := rfl
    rw [e, List.flatten_cons, List.set_append_left _ _ (by rw [slC_len]; omega)]
    rfl
  | x :: l, k + 1, hk, m => by
    have e : enc slC (x :: l) = slC x :: enc slC l := rfl
    rw [e, List.flatten_cons, List.set_append_right _ _ (by rw [slC_len]; omega), slC_len, show (k + 1) * 4 + 1 - 4 = k * 4 + 1 by omega, encS_set (by simpa using hk) m]
    rfl
theorem upd_set {n : Nat} {R : Rg} (ho : RgOk n R) {k : Nat} (hk : k < R.l.length) (m : Nat) : R.l.set k { R.l[k] with refs := m } = (R.upd R.l[k].id m).l := by
  unfold Rg.upd
  refine List.ext_getElem (by simp) fun j h1 h2 => ?_
  rw [List.getElem_set, List.getElem_map]
  have hj : j < R.l.length := by simpa using h1
  by_cases e : k = j
  · subst e; simp
  · rw [if_neg e, if_neg (fun e2 => e (rise_inj ho hj hk e2).symm)]
theorem del_idx {n : Nat} {R : Rg} (ho : RgOk n R) {k : Nat} (hk : k < R.l.length) : (R.del R.l[k].id).l = R.l.take k ++ R.l.drop (k + 1) := by
  unfold Rg.del
  have key : ∀ {l : List Sl} {k : Nat} (hk : k < l.length), (∀ j (hj : j < l.length), l[j].id = l[k].id → j = k) → l.eraseP (fun x => decide (x.id = l[k].id)) = l.take k ++ l.drop (k + 1) := by
    intro l
    induction l with
    | nil => intro k hk; cases hk
    | cons x l ih =>
      intro k hk hu
      cases k with
      | zero => simp
      | succ k =>
        have hk' : k < l.length := by simpa using hk
        have hx : ¬ x.id = l[k].id := fun e => by have := hu 0 (by simp) (by simpa using e); omega
        have := ih (k := k) (by simpa using hk) fun j hj e => by have := hu (j + 1) (by simpa using hj) (by simpa using e); omega
        simp [hx, this]
  exact key hk fun j hj e => rise_inj ho hj hk e
/-- What a call does to the document's registry. -/
def DoesX (f : FuncId) (args : List AV) (lo : Nat) (h : List (List AV)) (i b : Nat) (R : Rg) (r : AV) (R' : Rg) : Prop :=
  ∃ h' b', Contract Try.prog f args h r h' [i, b] ∧ XAt lo h' i b' R' ∧ (b' = b ∨ h.length ≤ b') ∧ h.length ≤ h'.length ∧ (∀ k < h.length, k ≠ i → k ≠ b → h'[k]? = h[k]?) ∧ (plainH h → plainH h')
theorem slC_lt (n : Nat) (l : List Sl) : ltL n (enc slC l).flatten := ltL_of fun j c hj => by
  obtain ⟨e, he, hc⟩ := List.mem_flatten.1 (List.mem_of_getElem? hj)
  obtain ⟨s, _, rfl⟩ := List.mem_map.1 he
  simp [slC] at hc
  rcases hc with rfl | rfl | rfl | rfl <;> simp
theorem slC_plain (l : List Sl) : ∀ c ∈ (enc slC l).flatten, c.idOf = none := fun c hc => by
  obtain ⟨e, he, hc⟩ := List.mem_flatten.1 hc
  obtain ⟨s, _, rfl⟩ := List.mem_map.1 he
  simp [slC] at hc
  rcases hc with rfl | rfl | rfl | rfl <;> rfl
section
variable {lo : Nat} {h : List (List AV)} {i b : Nat} {R : Rg}
theorem XAt.upd (hr : XAt lo h i b R) {n : Nat} (ho : RgOk n R) {k : Nat} (hk : k < R.l.length) (m : Nat) : XAt lo (h.set b (enc slC (R.upd R.l[k].id m).l).flatten) i b (R.upd R.l[k].id m) := by
  obtain ⟨e1, e2, _⟩ := hr.el hk
  have hlen : (R.upd R.l[k].id m).l.length = R.l.length := by unfold Rg.upd; simp
  have hne : (R.upd R.l[k].id m).l ≠ [] := fun e => by rw [e] at hlen; simp at hlen; omega
  refine ⟨?_, fun _ => List.getElem?_set_self (List.getElem?_eq_some_iff.1 e2).1, hr.low, hr.apart, ?_⟩
  · rw [List.getElem?_set_ne (Ne.symm hr.apart), e1]
    unfold lisA
    rw [if_neg hne, hlen]
    rfl
  · rw [List.length_set]; exact ltLL_set hr.lt (slC_lt _ _)
theorem xref_c (hr : XAt lo h i b R) {n : Nat} (ho : RgOk n R) (hn : R.l.length ≤ 1000) (hn2 : n ≤ 1000) (id : Int) : DoesX 23 [.box i 0, .v (.int .i64 id)] lo h i b R (.v (.bool (R.find id).isSome)) (R.ref id) := by
  obtain ⟨v, hv⟩ := pl_find ho id
  unfold Rg.ref
  generalize R.find id = o at *
  cases hv with
  | at_ k hk he =>
    obtain ⟨e1, e2, e3, e4, e5⟩ := hr.el hk
    have hrf := (ho.refs R.l[k] (List.getElem_mem hk)).2
    refine ⟨_, b, ?_, hr.upd ho hk (R.l[k].refs + 1), .inl rfl, by simp, fun q _ _ hq => List.getElem?_set_ne (Ne.symm hq), fun hp => plainH_set hp (slC_plain _) _⟩
    refine contract_of k23 mixed (by simp [c23]) fun hh hargs => ?_
    simp [c23]
    refine xcall_self (by simp) (xplace_c hr ho hn (.at_ k hk he)) ?_
    have hw : IntKind.i64.wrap ((R.l[k].refs : Int) + 1) = ((R.l[k].refs + 1 : Nat) : Int) := by rw [wrap64 (by omega) (by omega)]; omega
    have e6 := encS_set hk (R.l[k].refs + 1)
    rw [upd_set ho hk, show ((R.l[k].refs + 1 : Nat) : Int) = (R.l[k].refs : Int) + 1 by omega] at e6
    rw [show ((R.l[k].refs + 1 : Nat) : Int) = (R.l[k].refs : Int) + 1 by omega] at hw
    have e7 : (List.map List.length (enc slC R.l)).sum = 4 * R.l.length := by rw [← List.length_flatten]; exact e5
    have e8 : k * 4 + 1 + 1 ≤ 4 * R.l.length := by omega
    have e9 : ¬ (k : Int) < 0 := by omega
    simp [e1, e2, e4, hk, hh, hw, e7, e8, e6, e9]
    exact .inl (slC_lt _ _)
  | none hno =>
    refine ⟨h, b, ?_, hr, .inl rfl, Nat.le_refl _, fun _ _ _ _ => rfl, fun h => h⟩
    refine contract_of k23 mixed (by simp [c23]) fun hh hargs => ?_
    simp [c23]
    refine xcall_self (by simp) (xplace_c hr ho hn (.none hno)) ?_
    simp [hh]
    done
end
end Go.Proofs.Ytngkdlfgmpflnaa.Ax
/- The document's registry over values without memory: Find, Put. -/
namespace Go.Proofs.Ytngkdlfgmpflnaa.Ax
open Go.RowKit Go By
set_option linter.unusedSimpArgs false
set_option linter.unusedVariables false
set_option maxRecDepth 10000

section
variable {lo : Nat} {h : List (List AV)} {i b : Nat} {R : Rg}
theorem xfindS_c (hr : XAt lo h i b R) {n : Nat} (ho : RgOk n R) (hn : R.l.length ≤ 1000) (m : Sm) : Contract Try.prog 29 [.box i 0, .agg (smC m)] h (.tup [.v (.int .i64 (idOfS (R.findS m) : Int)), .v (.bool (R.findS m).isSome)]) h [] := by
  have hr2 : XAt lo (h ++ [smC m]) i b R := hr.app _ (by simp [smC_mk])
  have hi := (List.getElem?_eq_some_iff.1 hr.top).1
  refine contract_of k29 mixed (by simp [c29]) fun hh hargs => ?_
  simp [c29]
  refine xloop_ok (D := Nat) (fun j => ⟨[(0, .box i 0), (3, .box h.length 0), (6, .v (.int .i64 (j : Int)))], [], h ++ [smC m], []⟩) (fun j => j ≤ R.l.length ∧ (∀ q (hq : q < R.l.length), q < j → ¬ R.l[q].st = m)) (fun j => R.l.length - j) 0 ⟨by omega, fun q hq h => by omega⟩ ?_ ?_
  · simp [Leq, hh, leqH_take, hi, smC_mk, ltLL_mono (Nat.le_add_right h.length 1) hh]
    omega
  · rintro j ⟨hj, hno⟩
    by_cases hlt : j < R.l.length
    · obtain ⟨e1, e2, e3, e4, e5⟩ := hr2.el hlt
      have e6 := encS_st hlt
      have e7 : (List.map List.length (enc slC R.l)).sum = 4 * R.l.length := by rw [← List.length_flatten]; exact e5
      have e8 : j * 4 + 2 + 2 ≤ 4 * R.l.length := by omega
      have hb := (List.getElem?_eq_some_iff.1 (hr.el hlt).2.1).1
      have hne : ¬ b = h.length := by omega
      have hw : IntKind.i64.wrap ((j : Int) + 1) = (j : Int) + 1 := wrap64 (by omega) (by omega)
      have hsh := (ho.short R.l[j] (List.getElem_mem hlt)).2
      simp [e1, e2, hlt, e6, e7, e8]
      refine xcall_self (by simp) (krsame_c R.l[j].st m (by omega) _) ?_
      rw [sameK_eq]
      by_cases e : R.l[j].st = m
      · have hf : R.findS m = some R.l[j] := by have := findS_st ho (List.getElem_mem hlt); rw [e] at this; exact this
        simp [e, e1, e2, e3, hlt, hf, idOfS, hh]
        done
      · simp [e, hw]
        refine ⟨j + 1, ⟨by omega, fun q hq hqj => ?_⟩, by omega, ?_⟩
        · rcases Nat.lt_succ_iff_lt_or_eq.1 hqj with h3 | h3
          · exact hno q hq h3
          · subst h3; exact e
        · simp [Leq, hh, leqH_take, hi, smC_mk, ltLL_mono (Nat.le_add_right h.length 1) hh]
          omega
    · have : j = R.l.length := by omega
      subst this
      have hf : R.findS m = none := by
        unfold Rg.findS
        refine List.find?_eq_none.2 fun s hs => ?_
        obtain ⟨q, hq, rfl⟩ := List.getElem_of_mem hs
        simpa using hno q hq hq
      have h1 := hr2.top
      by_cases hl : R.l = []
      · have hlis : lisA b R.l = .sl 0 [] (some true) .exact := by unfold lisA; rw [if_pos hl]
        rw [hlis] at h1
        simp [h1, hh, hl, hf, idOfS]
        done
      · have hlis : lisA b R.l = .bsl b 0 4 R.l.length := by unfold lisA; rw [if_neg hl]
        rw [hlis] at h1
        simp [h1, hh, hf, idOfS]
        done
theorem add_upd {n : Nat} {R : Rg} (ho : RgOk n R) (m : Sm) (nb : Nat) : ((R.add m nb).upd (R.last + 1) 1).l = R.l ++ [⟨R.last + 1, 1, m, nb⟩] := by
  show (R.l ++ [_]).map _ = _
  rw [List.map_append]
  congr 1
  · have : ∀ x ∈ R.l, (if x.id = R.last + 1 then { x with refs := 1 } else x) = x := fun x hx => by
      rw [if_neg (by have := (ho.ids x hx).2; omega)]
    exact (List.map_congr_left this).trans (List.map_id _)
  · simp
theorem xput_c (hr : XAt lo h i b R) {n : Nat} (ho : RgOk n R) (hn : R.l.length ≤ 1000) (hn2 : n ≤ 1000) (m : Sm) (hl : m.oids.length ≤ 20) (nb : Nat) : DoesX 21 [.box i 0, .agg (smC m)] lo h i b R (.v (.int .i64 (R.putId m : Int))) (R.put m nb) := by
  have hr2 : XAt lo (h ++ [smC m]) i b R := hr.app _ (by simp [smC_mk])
  have hi := (List.getElem?_eq_some_iff.1 hr.top).1
  cases hk : keyable m with
  | false =>
    have hp : R.put m nb = R := by unfold Rg.put; rw [hk]; rfl
    have hq : R.putId m = 0 := by unfold Rg.putId; rw [hk]; rfl
    rw [hp, hq]
    refine ⟨h, b, ?_, hr, .inl rfl, Nat.le_refl _, fun _ _ _ _ => rfl, fun h => h⟩
    refine contract_of k21 mixed (by simp [c21]) fun hh hargs => ?_
    simp [c21]
    refine xcall_self (by simp) (krof_c m (by omega) _) ?_
    rw [keyB_none hk]
    simp [hh]
    done
  | true =>
    have hne : (keyB m).isEmpty = false := by
      have h2 := keyB_some hk
      cases hq : keyB m with
      | nil => exact absurd hq h2
      | cons _ _ => rfl
    cases hs : R.findS m with
    | some s =>
      have hm := (findS_mem hs).1
      have hp : R.put m nb = R.ref (s.id : Int) := by unfold Rg.put Rg.putS Rg.ref; rw [hk, hs, find_id ho hm]; rfl
      have hq : R.putId m = s.id := by unfold Rg.putId; rw [hk, hs]; rfl
      rw [hp, hq]
      obtain ⟨h', b', ct, hx, hb', hle, hsame, hpl⟩ := xref_c hr2 ho hn hn2 (s.id : Int)
      refine ⟨h', b', ?_, hx, ?_, by simp at hle; omega, fun k hk n1 n2 => by rw [hsame k (by simp; omega) n1 n2]; exact List.getElem?_append_left hk, fun hp => hpl (plainH_append hp fun x hx c hc => by rw [List.mem_singleton.1 hx, smC_mk] at hc; simp at hc; rcases hc with rfl | rfl <;> rfl)⟩
      · refine contract_of k21 mixed (by simp [c21]) fun hh hargs => ?_
        simp [c21]
        refine xcall_self (by simp) (krof_c m (by omega) _) ?_
        simp [hne]
        refine xcall_self (by simp) (xfindS_c hr2 ho hn m) ?_
        rw [hs]
        simp [idOfS]
        refine xcall_self (by simp) ct ?_
        have := hx.lt
        simp at hle
        simp [this, leqH_take]
        omega
      · rcases hb' with h1 | h1
        · exact .inl h1
        · right; simp at h1; omega
    | none =>
      have hp : R.put m nb = (R.add m nb).upd (R.last + 1) 1 := by unfold Rg.put Rg.putS; rw [hk, hs]; rfl
      have hq : R.putId m = R.last + 1 := by unfold Rg.putId; rw [hk, hs]; rfl
      rw [hp, hq]
      have hid : ¬ h.length = i := by omega
      have g1 : ∀ xs, (h ++ xs)[i]? = some [lisA b R.l, .v (.int .i64 (R.last : Int))] := fun xs => by rw [List.getElem?_append_left hi]; exact hr.top
      have s1 : ∀ xs c, (h ++ xs).set i c = h.set i c ++ xs := fun xs c => List.set_append_left _ _ hi
      have hw : IntKind.i64.wrap ((R.last : Int) + 1) = (R.last : Int) + 1 := wrap64 (by have := ho.last; omega) (by have := ho.last; omega)
      obtain ⟨H1, h1⟩ : ∃ H1, H1 = h.set i [lisA b R.l, .v (.int .i64 ((R.last : Int) + 1))] := ⟨_, rfl⟩
      have hl1 : H1.length = h.length := by rw [h1]; simp
      have g2 : ∀ xs, (H1 ++ xs)[i]? = some [lisA b R.l, .v (.int .i64 ((R.last : Int) + 1))] := fun xs => by rw [List.getElem?_append_left (by omega), h1]; exact List.getElem?_set_self hi
      have g3 : ∀ xs, (H1 ++ smC m :: xs)[h.length]? = some (smC m) := fun xs => by rw [List.getElem?_append_right (by omega), hl1]; simp
      simp only [smC_mk] at g3
      have hsl : slC ⟨R.last + 1, 1, m, nb⟩ = [.v (.int .i64 ((R.last : Int) + 1)), .v (.int .i64 1), .v (.string (strB m.text)), .sl 1 (enc intC m.oids) none .no] := by simp [slC]
      have hfin : ∀ h' : List (List AV), h'[i]? = some [.bsl (h.length + 1) 0 4 (R.l.length + 1), .v (.int .i64 ((R.last : Int) + 1))] → h'[h.length + 1]? = some ((enc slC R.l).flatten ++ slC ⟨R.last + 1, 1, m, nb⟩) → ltLL h'.length h' → XAt lo h' i (h.length + 1) ((R.add m nb).upd (R.last + 1) 1) := fun h' e1 e2 e3 => by
        have el := add_upd ho m nb
        have hlo := hr.low.1
        have ene : ((R.add m nb).upd (R.last + 1) 1).l ≠ [] := by rw [el]; simp
        refine ⟨?_, fun _ => ?_, ⟨hlo, by omega⟩, by omega, e3⟩
        · unfold lisA
          rw [if_neg ene, el, e1, List.length_append]
          show _ = some [AV.bsl _ 0 4 (R.l.length + 1), AV.v (.int .i64 ((R.last + 1 : Nat) : Int))]
          rw [show ((R.last + 1 : Nat) : Int) = (R.last : Int) + 1 by omega]
        · rw [e2, el]
          have : enc slC (R.l ++ [⟨R.last + 1, 1, m, nb⟩]) = enc slC R.l ++ [slC ⟨R.last + 1, 1, m, nb⟩] := by simp [enc]
          rw [this, List.flatten_append]
          simp
      have hb1 : ltLL (h.length + 2) h := ltLL_mono (by omega) hr.lt
      by_cases hL : R.l = []
      · have hlis : lisA b R.l = .sl 0 [] (some true) .exact := by unfold lisA; rw [if_pos hL]
        rw [hlis] at g1 g2 h1
        have hLt : ltLL (h.length + 2) (h.set i [.bsl (h.length + 1) 0 4 1, .v (.int .i64 ((R.last : Int) + 1))] ++ [smC m, slC ⟨R.last + 1, 1, m, nb⟩]) := ltLL_append.2 ⟨ltLL_set hb1 (by simp), by rw [hsl]; simp [smC_mk]⟩
        refine ⟨h.set i [.bsl (h.length + 1) 0 4 1, .v (.int .i64 ((R.last : Int) + 1))] ++ [smC m, slC ⟨R.last + 1, 1, m, nb⟩], h.length + 1, ?_, ?_, .inr (by omega), by simp, ?_, ?_⟩
        · refine contract_of k21 mixed (by simp [c21]) fun hh hargs => ?_
          simp [c21]
          refine xcall_self (by simp) (krof_c m (by omega) _) ?_
          simp [hne]
          refine xcall_self (by simp) (xfindS_c hr2 ho hn m) ?_
          rw [hs]
          simp [idOfS, g1, s1, hw, ← h1, g2, g3, smC_mk]
          refine ⟨by omega, by omega, .inr (.inl ⟨by omega, _, rfl, by simp, by simp, by simp, by simp, ?_⟩)⟩
          have s2 : ∀ xs c, (H1 ++ xs).set i c = h.set i c ++ xs := fun xs c => by rw [List.set_append_left _ _ (by omega), h1, List.set_set]
          have g5 : ∀ xs c, (h.set i c ++ xs)[i]? = some c := fun xs c => by rw [List.getElem?_append_left (by simpa using hi)]; exact List.getElem?_set_self hi
          simp [g2, hl1, s2, g5, hid]
          rw [hsl]
          exact ⟨leqH_refl _ _, ltLL_set hb1 (by simp), by simp⟩
        · refine hfin _ ?_ ?_ (by simpa using hLt)
          · rw [List.getElem?_append_left (by simpa using hi), List.getElem?_set_self hi, hL]; rfl
          · rw [List.getElem?_append_right (by simp), hL]; simp [enc]
        · intro k hk n1 n2
          rw [List.getElem?_append_left (by simpa using hk), List.getElem?_set_ne (Ne.symm n1)]
        · intro hp
          refine plainH_append (plainH_set hp (fun c hc => by simp at hc; rcases hc with rfl | rfl <;> rfl) _) ?_
          intro x hx c hc
          rw [hsl, smC_mk] at hx
          simp at hx
          rcases hx with rfl | rfl <;> simp at hc
          · rcases hc with rfl | rfl <;> rfl
          · rcases hc with rfl | rfl | rfl | rfl <;> rfl
      · have hlis : lisA b R.l = .bsl b 0 4 R.l.length := by unfold lisA; rw [if_neg hL]
        rw [hlis] at g1 g2 h1
        have hb := hr.list hL
        have hbl := (List.getElem?_eq_some_iff.1 hb).1
        have g4 : ∀ xs, (H1 ++ xs)[b]? = some (enc slC R.l).flatten := fun xs => by rw [List.getElem?_append_left (by omega), h1, List.getElem?_set_ne hr.apart]; exact hb
        refine ⟨(h.set i [.bsl (h.length + 1) 0 4 (R.l.length + 1), .v (.int .i64 ((R.last : Int) + 1))]).set b [] ++ [smC m, (enc slC R.l).flatten ++ slC ⟨R.last + 1, 1, m, nb⟩], h.length + 1, ?_, ?_, .inr (by omega), by simp, ?_, ?_⟩
        · refine contract_of k21 mixed (by simp [c21]) fun hh hargs => ?_
          simp [c21]
          refine xcall_self (by simp) (krof_c m (by omega) _) ?_
          simp [hne]
          refine xcall_self (by simp) (xfindS_c hr2 ho hn m) ?_
          rw [hs]
          simp [idOfS, g1, s1, hw, ← h1, g2, g3, smC_mk]
          refine ⟨by omega, by omega, .inr (.inl ⟨by omega, _, rfl, by simp, by simp, rfl, by have := List.length_pos_iff.2 hL; omega, _, g4 _, by rw [encS_len]; omega, slC_plain _, by simp; omega, by simp; omega, ?_⟩)⟩
          have s3 : ∀ xs, (H1 ++ xs).set b [] = H1.set b [] ++ xs := fun xs => List.set_append_left _ _ (by omega)
          have g6 : ∀ xs, (H1.set b [] ++ xs)[i]? = some [.bsl b 0 4 R.l.length, .v (.int .i64 ((R.last : Int) + 1))] := fun xs => by rw [List.getElem?_append_left (by simp; omega), List.getElem?_set_ne (Ne.symm hr.apart), h1]; exact List.getElem?_set_self hi
          have s4 : ∀ xs c, (H1.set b [] ++ xs).set i c = (h.set i c).set b [] ++ xs := fun xs c => by rw [List.set_append_left _ _ (by simp; omega), List.set_comm _ _ (Ne.symm hr.apart), h1, List.set_set]
          have g7 : ∀ xs c, ((h.set i c).set b [] ++ xs)[i]? = some c := fun xs c => by rw [List.getElem?_append_left (by simpa using hi), List.getElem?_set_ne (Ne.symm hr.apart)]; exact List.getElem?_set_self hi
          have n1 : ¬ h.length = b := by omega
          have n2 : ¬ i = b := hr.apart
          simp [hl1, s3, g6, s4, g7, hid, n1, n2]
          rw [hsl, List.take_of_length_le (by simp)]
          exact ⟨leqH_refl _ _, ltLL_set (ltLL_set hb1 (by simp)) (by simp), slC_lt _ _, by simp⟩
        · refine hfin _ ?_ ?_ ?_
          · rw [List.getElem?_append_left (by simpa using hi), List.getElem?_set_ne (Ne.symm hr.apart), List.getElem?_set_self hi]
          · rw [List.getElem?_append_right (by simp)]; simp
          · simp only [List.length_append, List.length_set, List.length_cons, List.length_nil]
            refine ltLL_append.2 ⟨ltLL_set (ltLL_set hb1 (by simp)) (by simp), ?_⟩
            rw [hsl, smC_mk]
            simp
            exact slC_lt _ _
        · intro k hk n1 n2
          rw [List.getElem?_append_left (by simpa using hk), List.getElem?_set_ne (Ne.symm n2), List.getElem?_set_ne (Ne.symm n1)]
        · intro hp
          refine plainH_append (plainH_set (plainH_set hp (fun c hc => by simp at hc; rcases hc with rfl | rfl <;> rfl) _) (fun c hc => by simp at hc) _) ?_
          intro x hx c hc
          rw [hsl, smC_mk] at hx
          rcases List.mem_cons.1 hx with rfl | hx
          · simp at hc; rcases hc with rfl | rfl <;> rfl
          · rw [List.mem_singleton.1 hx] at hc
            rcases List.mem_append.1 hc with hc | hc
            · exact slC_plain _ c hc
            · simp at hc; rcases hc with rfl | rfl | rfl | rfl <;> rfl
end
end Go.Proofs.Ytngkdlfgmpflnaa.Ax
/- The document's registry over values without memory: Drop. -/
namespace Go.Proofs.Ytngkdlfgmpflnaa.Ax
open Go.RowKit Go By
set_option linter.unusedSimpArgs false
set_option linter.unusedVariables false
set_option maxRecDepth 10000

theorem encS_take : ∀ (l : List Sl) (k : Nat), (enc slC l).flatten.take (k * 4) = (enc slC (l.take k)).flatten
  | [], k => by simp [enc]
  | x :: l, 0 => by simp [enc]
  | x :: l, k + 1 => by
    have e : enc slC (x :: l) = slC x :: enc slC l := rfl
    have e2 : enc slC (x :: l.take k) = slC x :: enc slC (l.take k) := rfl
    rw [List.take_succ_cons, e, e2, List.flatten_cons, List.flatten_cons, List.take_append, slC_len, show (k + 1) * 4 - 4 = k * 4 by omega, encS_take l k, List.take_of_length_le (by rw [slC_len]; omega)]
theorem encS_drop : ∀ (l : List Sl) (k : Nat), (enc slC l).flatten.drop (k * 4) = (enc slC (l.drop k)).flatten
  | [], k => by simp [enc]
  | x :: l, 0 => by simp [enc]
  | x :: l, k + 1 => by
    have e : enc slC (x :: l) = slC x :: enc slC l := rfl
    rw [List.drop_succ_cons, e, List.flatten_cons, List.drop_append, slC_len, show (k + 1) * 4 - 4 = k * 4 by omega, encS_drop l k, List.drop_of_length_le (by rw [slC_len]; omega), List.nil_append]
theorem rows_take {H : List (List AV)} {b : Nat} {l : List Sl} (hb : H[b]? = some (enc slC l).flatten) {k : Nat} (hk : k ≤ l.length) : rowsOf H 4 (.bsl b 0 4 k) = some (enc slC (l.take k)) := by
  show (if 4 = 4 then (H[b]?).bind fun cs => if 0 + k * 4 ≤ cs.length then some (chunk 4 k ((cs.drop 0).take (k * 4))) else none else none) = _
  rw [if_pos rfl, hb]
  show (if 0 + k * 4 ≤ (enc slC l).flatten.length then some (chunk 4 k (((enc slC l).flatten.drop 0).take (k * 4))) else none) = _
  rw [if_pos (by rw [encS_len]; omega), List.drop_zero, encS_take]
  have := chunk_flat slC_len (l.take k)
  rw [List.length_take, Nat.min_eq_left hk] at this
  rw [this]
theorem rows_drop {H : List (List AV)} {b : Nat} {l : List Sl} (hb : H[b]? = some (enc slC l).flatten) {k m : Nat} (hm : k + m = l.length) : rowsOf H 4 (.bsl b (k * 4) 4 m) = some (enc slC (l.drop k)) := by
  show (if 4 = 4 then (H[b]?).bind fun cs => if k * 4 + m * 4 ≤ cs.length then some (chunk 4 m ((cs.drop (k * 4)).take (m * 4))) else none else none) = _
  rw [if_pos rfl, hb]
  show (if k * 4 + m * 4 ≤ (enc slC l).flatten.length then some (chunk 4 m (((enc slC l).flatten.drop (k * 4)).take (m * 4))) else none) = _
  have hl : (l.drop k).length = m := by rw [List.length_drop]; omega
  rw [if_pos (by rw [encS_len]; omega), encS_drop, List.take_of_length_le (by rw [encS_len, hl]; omega)]
  have := chunk_flat slC_len (l.drop k)
  rw [hl] at this
  rw [this]
section
variable {lo : Nat} {h : List (List AV)} {i b : Nat} {R : Rg}
theorem xdrop_c (hr : XAt lo h i b R) {n : Nat} (ho : RgOk n R) (hn : R.l.length ≤ 1000) (hn2 : n ≤ 1000) (id : Int) : DoesX 25 [.box i 0, .v (.int .i64 id)] lo h i b R (.v (.bool (R.find id).isSome)) (R.drop id) := by
  obtain ⟨v, hv⟩ := pl_find ho id
  have hi := (List.getElem?_eq_some_iff.1 hr.top).1
  unfold Rg.drop
  generalize R.find id = o at *
  cases hv with
  | none hno =>
    refine ⟨h, b, ?_, hr, .inl rfl, Nat.le_refl _, fun _ _ _ _ => rfl, fun h => h⟩
    refine contract_of k25 mixed (by simp [c25]) fun hh hargs => ?_
    simp [c25]
    refine xcall_self (by simp) (xplace_c hr ho hn (.none hno)) ?_
    simp [hh]
  | at_ k hk he =>
    obtain ⟨e1, e2, e3, e4, e5⟩ := hr.el hk
    have hrf := ho.refs R.l[k] (List.getElem_mem hk)
    have hw : IntKind.i64.wrap ((R.l[k].refs : Int) - 1) = ((R.l[k].refs - 1 : Nat) : Int) := by rw [wrap64 (by omega) (by omega)]; omega
    have e6 := encS_set hk (R.l[k].refs - 1)
    have e7 : (List.map List.length (enc slC R.l)).sum = 4 * R.l.length := by rw [← List.length_flatten]; exact e5
    have e8 : k * 4 + 1 + 1 ≤ 4 * R.l.length := by omega
    have e9 : ¬ (k : Int) < 0 := by omega
    have hbl := (List.getElem?_eq_some_iff.1 e2).1
    have hne := hr.apart
    by_cases h1 : R.l[k].refs = 1
    · obtain ⟨l1, hl1⟩ : ∃ l1, l1 = R.l.set k { R.l[k] with refs := 0 } := ⟨_, rfl⟩
      have hz : R.l[k].refs - 1 = 0 := by omega
      rw [hz, ← hl1] at e6
      rw [hz] at hw
      replace e6 : (enc slC R.l).flatten.set (k * 4 + 1) (.v (.int .i64 0)) = (enc slC l1).flatten := e6
      replace hw : IntKind.i64.wrap ((R.l[k].refs : Int) - 1) = 0 := hw
      have hlen : l1.length = R.l.length := by rw [hl1]; simp
      have htk : l1.take k = R.l.take k := by rw [hl1]; exact List.take_set_of_le (Nat.le_refl k)
      have hdk : l1.drop (k + 1) = R.l.drop (k + 1) := by rw [hl1]; exact List.drop_set_of_lt (Nat.lt_succ_self k)
      obtain ⟨H, hH⟩ : ∃ H, H = h.set b (enc slC l1).flatten := ⟨_, rfl⟩
      have hHl : H.length = h.length := by rw [hH]; simp
      have g1 : H[i]? = some [.bsl b 0 4 R.l.length, .v (.int .i64 (R.last : Int))] := by rw [hH, List.getElem?_set_ne (Ne.symm hne)]; exact e1
      have g2 : H[b]? = some (enc slC l1).flatten := by rw [hH]; exact List.getElem?_set_self hbl
      have g3 : (enc slC l1).flatten[k * 4 + 1]? = some (.v (.int .i64 0)) := by
        rw [← e6]
        exact List.getElem?_set_self (by omega)
      have hdel := del_idx ho hk
      have hHlt : ltLL h.length H := by rw [hH]; exact ltLL_set hr.lt (slC_lt _ _)
      have hHp : plainH h → plainH H := fun hp => by rw [hH]; exact plainH_set hp (slC_plain _) _
      have hHs : ∀ q, q ≠ b → H[q]? = h[q]? := fun q hq => by rw [hH]; exact List.getElem?_set_ne (Ne.symm hq)
      have hfin : ∀ (h' : List (List AV)) (b' : Nat) (L : AV) (xs : List (List AV)), h' = H.set i [L, .v (.int .i64 (R.last : Int))] ++ xs → lo ≤ b' → i ≠ b' → L = lisA b' (R.l.take k ++ R.l.drop (k + 1)) → (R.l.take k ++ R.l.drop (k + 1) ≠ [] → h'[b']? = some (enc slC (R.l.take k ++ R.l.drop (k + 1))).flatten) → ltLL h'.length h' → XAt lo h' i b' (R.del R.l[k].id) := fun h' b' L xs e1 e2 e3 e4 e5 e6 => by
        refine ⟨?_, ?_, ⟨hr.low.1, e2⟩, e3, e6⟩
        · rw [hdel, ← e4, e1, List.getElem?_append_left (by simp; omega), List.getElem?_set_self (by omega)]
          rfl
        · rw [hdel]; exact e5
      have run : ∀ (h' : List (List AV)) , (∀ (hh : ltLL h.length h), xwp Try.prog ⟨h, [.box i 0, .v (.int .i64 id)]⟩ c25.code (enter [.box i 0, .v (.int .i64 id)] h) (kret c25.res h.length (.v (.bool true)) h' [i, b])) → Contract Try.prog 25 [.box i 0, .v (.int .i64 id)] h (.v (.bool true)) h' [i, b] := fun h' hx => contract_of k25 mixed (by simp [c25]) fun hh hargs => hx hh
      have hres : (Option.some R.l[k]).isSome = true := rfl
      simp only [if_pos h1]
      have hw2 : IntKind.i64.wrap ((k : Int) + 1) = (k : Int) + 1 := wrap64 (by omega) (by omega)
      have hkle : k ≤ l1.length := by omega
      have lnT : (enc slC (l1.take k)).length = k := by simp; omega
      have lnD : (enc slC (l1.drop (k + 1))).length = R.l.length - (k + 1) := by simp [hlen]
      have neT : k ≠ 0 → enc slC (l1.take k) ≠ [] := fun hk0 e => by
        have h0 : 0 = k := by rw [← lnT, e]; rfl
        omega
      have neD : k + 1 ≠ R.l.length → enc slC (l1.drop (k + 1)) ≠ [] := fun hk1 e => by
        have h0 : 0 = R.l.length - (k + 1) := by rw [← lnD, e]; rfl
        omega
      have n1 : ∀ q, ¬ h.length + q = i := fun q => by omega
      have n2 : ¬ h.length = i := by omega
      have hsub : ∀ {q : Nat}, ((R.l.length : Int) - ((k : Int) + 1)).toNat = R.l.length - (k + 1) := fun {q} => by omega
      have hsub2 : ((R.l.length : Int) - ((k : Int) + 1)).toNat = R.l.length - (k + 1) := by omega
      have hlo : lo ≤ h.length := by have := hr.low.1; omega
      have s1 : ∀ xs c, (H ++ xs).set i c = H.set i c ++ xs := fun xs c => List.set_append_left _ _ (by omega)
      have g5 : ∀ xs, (H ++ xs)[i]? = some [.bsl b 0 4 R.l.length, .v (.int .i64 (R.last : Int))] := fun xs => by rw [List.getElem?_append_left (by omega)]; exact g1
      have g6 : ∀ xs, (H ++ xs)[b]? = some (enc slC l1).flatten := fun xs => by rw [List.getElem?_append_left (by omega)]; exact g2
      have keep : ∀ (L : AV) (xs : List (List AV)) (q : Nat), q < h.length → q ≠ i → q ≠ b → (H.set i [L, .v (.int .i64 (R.last : Int))] ++ xs)[q]? = h[q]? := fun L xs q h1 h2 h3 => by
        rw [List.getElem?_append_left (by simp; omega), List.getElem?_set_ne (Ne.symm h2)]; exact hHs q h3
      have keepP : ∀ (L : AV) (xs : List (List AV)), L.idOf = none → plainH xs → plainH h → plainH (H.set i [L, .v (.int .i64 (R.last : Int))] ++ xs) := fun L xs h1 h2 hp =>
        plainH_append (plainH_set (hHp hp) (fun c hc => by simp at hc; rcases hc with rfl | rfl; exact h1; rfl) _) h2
      by_cases hk0 : k = 0
      · have q0 : ∀ x y : AV, (if (0 : Int) = (k : Int) then x else y) = x := fun x y => if_pos (by omega)
        by_cases hk1 : k + 1 = R.l.length
        · have q1 : ∀ x y : AV, (if (k : Int) + 1 = (R.l.length : Int) then x else y) = x := fun x y => if_pos (by omega)
          have hdn : R.l.take k ++ R.l.drop (k + 1) = [] := by rw [hk1, List.drop_length, hk0]; rfl
          refine ⟨H.set i [.sl 0 [] (some true) .exact, .v (.int .i64 (R.last : Int))] ++ [], b, run _ fun hh => ?_, hfin _ b _ [] rfl hr.low.2 hr.apart (by rw [hdn]; rfl) (fun hx => absurd hdn hx) ?_, .inl rfl, by simp; omega, keep _ _, keepP _ _ rfl (fun x hx => by cases hx)⟩
          · rw [List.append_nil]
            simp [c25]
            refine xcall_self (by simp) (xplace_c hr ho hn (.at_ k hk he)) ?_
            simp [e1, e2, e4, hk, hh, hw, e7, e8, e6, e9, ← hH, g1, g2, g3, hw2, q0, q1]
            refine ⟨by omega, by omega, ?_⟩
            refine .inl (.inr (.inr ⟨by omega, rfl, ?_⟩))
            simp [q1]
            refine .inr (.inr ⟨by omega, rfl, ?_⟩)
            simp [g1, n2]
            exact ⟨by omega, by rw [hHl]; exact ltLL_set hHlt (by simp)⟩
          · rw [List.append_nil, List.length_set, hHl]
            exact ltLL_set hHlt (by simp)
        · have q1 : ∀ x y : AV, (if (k : Int) + 1 = (R.l.length : Int) then x else y) = y := fun x y => if_neg (by omega)
          have hd2 : R.l.take k ++ R.l.drop (k + 1) = R.l.drop (k + 1) := by rw [hk0]; rfl
          have hdl : (R.l.drop (k + 1)).length = R.l.length - (k + 1) := List.length_drop ..
          refine ⟨H.set i [.bsl h.length 0 4 (R.l.length - (k + 1)), .v (.int .i64 (R.last : Int))] ++ [(enc slC (R.l.drop (k + 1))).flatten], h.length, run _ fun hh => ?_, hfin _ _ _ _ rfl hlo (by omega) ?_ (fun hx => ?_) ?_, .inr (Nat.le_refl _), by simp; omega, keep _ _, keepP _ _ rfl ?_⟩
          · simp [c25]
            refine xcall_self (by simp) (xplace_c hr ho hn (.at_ k hk he)) ?_
            simp [e1, e2, e4, hk, hh, hw, e7, e8, e6, e9, ← hH, g1, g2, g3, hw2, q0, q1, hsub2]
            refine ⟨by omega, by omega, .inl (.inr (.inr ⟨by omega, rfl, ?_⟩))⟩
            simp
            refine .inr (.inl ⟨by omega, _, rows_drop g2 (by omega), neD hk1, slC_plain _, by rw [lnD]; omega, by rw [lnD]; omega, ?_⟩)
            rw [lnD, hdk]
            simp [g5, s1, n2, hHl]
            exact ⟨by rw [List.take_of_length_le (by simp; omega)]; exact leqH_refl _ _, ltLL_set (ltLL_mono (by omega) hHlt) (by simp), slC_lt _ _⟩
          · unfold lisA
            rw [hd2, if_neg (fun e => by rw [e] at hdl; simp at hdl; omega), hdl]
          · rw [List.getElem?_append_right (by simp; omega)]
            simp [hHl, hd2]
          · simp only [List.length_append, List.length_set, hHl, List.length_cons, List.length_nil]
            exact ltLL_append.2 ⟨ltLL_set (ltLL_mono (by omega) hHlt) (by simp), by simp; exact slC_lt _ _⟩
          · intro x hx
            rw [List.mem_singleton.1 hx]
            exact slC_plain _
      · have q0 : ∀ x y : AV, (if (0 : Int) = (k : Int) then x else y) = y := fun x y => if_neg (by omega)
        have htl : (R.l.take k).length = k := by rw [List.length_take]; omega
        by_cases hk1 : k + 1 = R.l.length
        · have q1 : ∀ x y : AV, (if (k : Int) + 1 = (R.l.length : Int) then x else y) = x := fun x y => if_pos (by omega)
          have hd2 : R.l.take k ++ R.l.drop (k + 1) = R.l.take k := by rw [hk1, List.drop_length, List.append_nil]
          refine ⟨H.set i [.bsl h.length 0 4 k, .v (.int .i64 (R.last : Int))] ++ [(enc slC (R.l.take k)).flatten], h.length, run _ fun hh => ?_, hfin _ _ _ _ rfl hlo (by omega) ?_ (fun hx => ?_) ?_, .inr (Nat.le_refl _), by simp; omega, keep _ _, keepP _ _ rfl ?_⟩
          · simp [c25]
            refine xcall_self (by simp) (xplace_c hr ho hn (.at_ k hk he)) ?_
            simp [e1, e2, e4, hk, hh, hw, e7, e8, e6, e9, ← hH, g1, g2, g3, hw2, q0, q1, hsub2]
            refine ⟨by omega, by omega, .inl (.inr (.inl ⟨by omega, _, rows_take g2 hkle, neT hk0, slC_plain _, by rw [lnT]; omega, by rw [lnT]; omega, ?_⟩))⟩
            rw [lnT, htk]
            simp [g5]
            refine .inr (.inr ⟨by omega, rfl, ?_⟩)
            simp [g5, s1, n2, hHl]
            exact ⟨by rw [List.take_of_length_le (by simp; omega)]; exact leqH_refl _ _, ltLL_set (ltLL_mono (by omega) hHlt) (by simp), slC_lt _ _⟩
          · unfold lisA
            rw [hd2, if_neg (fun e => by rw [e] at htl; simp at htl; omega), htl]
          · rw [List.getElem?_append_right (by simp; omega)]
            simp [hHl, hd2]
          · simp only [List.length_append, List.length_set, hHl, List.length_cons, List.length_nil]
            exact ltLL_append.2 ⟨ltLL_set (ltLL_mono (by omega) hHlt) (by simp), by simp; exact slC_lt _ _⟩
          · intro x hx
            rw [List.mem_singleton.1 hx]
            exact slC_plain _
        · have q1 : ∀ x y : AV, (if (k : Int) + 1 = (R.l.length : Int) then x else y) = y := fun x y => if_neg (by omega)
          have hdl : (R.l.take k ++ R.l.drop (k + 1)).length = k + (R.l.length - (k + 1)) := by rw [List.length_append, htl, List.length_drop]
          have hfl : (enc slC (R.l.take k ++ R.l.drop (k + 1))).flatten = (enc slC (R.l.take k)).flatten ++ (enc slC (R.l.drop (k + 1))).flatten := by simp [enc]
          refine ⟨H.set i [.bsl (h.length + 1) 0 4 (k + (R.l.length - (k + 1))), .v (.int .i64 (R.last : Int))] ++ [[], (enc slC (R.l.take k)).flatten ++ (enc slC (R.l.drop (k + 1))).flatten], h.length + 1, run _ fun hh => ?_, hfin _ _ _ _ rfl (by omega) (by omega) ?_ (fun hx => ?_) ?_, .inr (by omega), by simp; omega, keep _ _, keepP _ _ rfl ?_⟩
          · simp [c25]
            refine xcall_self (by simp) (xplace_c hr ho hn (.at_ k hk he)) ?_
            simp [e1, e2, e4, hk, hh, hw, e7, e8, e6, e9, ← hH, g1, g2, g3, hw2, q0, q1, hsub2]
            refine ⟨by omega, by omega, .inl (.inr (.inl ⟨by omega, _, rows_take g2 hkle, neT hk0, slC_plain _, by rw [lnT]; omega, by rw [lnT]; omega, ?_⟩))⟩
            rw [lnT, htk]
            simp [g5, hHl]
            have gA : (H ++ [(enc slC (R.l.take k)).flatten])[h.length]? = some (enc slC (R.l.take k)).flatten := by rw [← hHl]; simp
            have sA : (H ++ [(enc slC (R.l.take k)).flatten]).set h.length [] = H ++ [[]] := by rw [← hHl]; simp
            refine .inr (.inl ⟨by omega, _, rows_drop (g6 _) (by omega), neD hk1, slC_plain _, rfl, by omega, _, gA, by rw [encS_len, htl]; omega, slC_plain _, by rw [lnD]; omega, by rw [lnD]; omega, ?_⟩)
            rw [lnD, hdk]
            simp [g5, s1, n1, n2, hHl, sA]
            exact ⟨by omega, by rw [List.take_of_length_le (by simp; omega)]; exact leqH_refl _ _, ltLL_set (ltLL_mono (by omega) hHlt) (by simp), slC_lt _ _, slC_lt _ _⟩
          · unfold lisA
            rw [if_neg (fun e => by rw [e] at hdl; simp at hdl; omega), hdl]
          · rw [List.getElem?_append_right (by simp; omega), hfl]
            simp [hHl]
          · simp only [List.length_append, List.length_set, hHl, List.length_cons, List.length_nil]
            exact ltLL_append.2 ⟨ltLL_set (ltLL_mono (by omega) hHlt) (by simp), by simp; exact ⟨slC_lt _ _, slC_lt _ _⟩⟩
          · intro x hx c hc
            rcases List.mem_cons.1 hx with rfl | hx
            · cases hc
            · rw [List.mem_singleton.1 hx] at hc
              rcases List.mem_append.1 hc with hc | hc
              · exact slC_plain _ c hc
              · exact slC_plain _ c hc
    · rw [upd_set ho hk] at e6
      have hnz : ¬ R.l[k].refs - 1 = 0 := by omega
      refine ⟨_, b, ?_, by simp only [if_neg h1]; exact hr.upd ho hk (R.l[k].refs - 1), .inl rfl, by simp, fun q _ _ hq => List.getElem?_set_ne (Ne.symm hq), fun hp => plainH_set hp (slC_plain _) _⟩
      refine contract_of k25 mixed (by simp [c25]) fun hh hargs => ?_
      simp [c25]
      refine xcall_self (by simp) (xplace_c hr ho hn (.at_ k hk he)) ?_
      have g1 : ∀ x, (h.set b x)[i]? = some [.bsl b 0 4 R.l.length, .v (.int .i64 (R.last : Int))] := fun x => by rw [List.getElem?_set_ne (Ne.symm hne)]; exact e1
      have g2 : ∀ x, (h.set b x)[b]? = some x := fun x => List.getElem?_set_self hbl
      have hlen : (R.upd R.l[k].id (R.l[k].refs - 1)).l.length = R.l.length := by unfold Rg.upd; simp
      have g3 : (enc slC (R.upd R.l[k].id (R.l[k].refs - 1)).l).flatten[k * 4 + 1]? = some (.v (.int .i64 ((R.l[k].refs - 1 : Nat) : Int))) := by
        rw [← e6]
        exact List.getElem?_set_self (by omega)
      simp [e1, e2, e4, hk, hh, hw, e7, e8, e6, e9, g1, g2, g3, hnz]
      exact .inl (slC_lt _ _)
end
end Go.Proofs.Ytngkdlfgmpflnaa.Ax
/- Layer 14's statement: a registry lives as the document's does. -/
namespace Go.Proofs.Ytngkdlfgmpflnaa.Ax
open Go.RowKit Go By
set_option linter.unusedSimpArgs false
set_option linter.unusedVariables false
set_option maxRecDepth 10000

theorem idAt_get {n : Nat} {R : Rg} (ho : RgOk n R) {j : Nat} (hj : j < R.l.length) : R.idAt j = (R.l[j].id : Int) ∧ R.find (R.idAt j) = some R.l[j] := by
  have e : R.idAt j = ((R.l[j]).id : Int) := by
    unfold Rg.idAt intsN Rg.ids
    simp [List.getD_eq_getElem?_getD, hj]
  exact ⟨e, by rw [e]; exact find_id ho (List.getElem_mem hj)⟩
theorem lsame_c {lo lo' : Nat} {h : List (List AV)} {i ix b : Nat} {R : Rg} (hr : RegAt lo h i R) (hx : XAt lo' h ix b R) {n : Nat} (ho : RgOk n R) (hn : n ≤ 1000) (hp : plainH h) : Contract Try.prog 33 [.box i 0, .box ix 0] h (.v (.bool true)) h [] := by
  have hi := hr.i_lt
  have hix := (List.getElem?_eq_some_iff.1 hx.top).1
  have hids : R.ids.length = R.l.length := by unfold Rg.ids; simp
  have hlast : R.ids.length ≤ 1000 := by
    have := rising_len (k := 0) ho.rise (fun x hx => by obtain ⟨s, hs, rfl⟩ := List.mem_map.1 hx; have := ho.ids s hs; have := ho.last; exact ⟨by omega, by show s.id ≤ n; omega⟩)
    unfold Rg.ids
    omega
  have hHl : ltLL h.length h := hr.lt
  refine contract_of k33 mixed (by simp [c33]) fun hh hargs => ?_
  simp [c33]
  refine xcall_self (by simp) (gall_c (by simp; omega)) ?_
  simp
  refine xrange_all (gall_iter (lo := lo) (i := i) ho hn (h.length + 3) (h.length + 5)) (fun j => h ++ [[.box ix 0], [.v (.bool false)], [.v (.int .i64 (j : Int))], [.box i 0]]) [h.length + 2, h.length + 4] (by simp) (by simp) (fun _ => by simp [XCode.okIn]) (fun _ => by simp [XCode.okIn]) (by simp) (fun j _ => by simp) (fun j _ => ⟨by simp, by simp, ?_, ?_⟩) ?_ (fun j hj => ⟨rfl, by simp [Rg.told], ?_⟩) ?_
  · show RegAt lo ((h ++ [[.box ix 0], [.v (.bool false)], [.v (.int .i64 (j : Int))], [.box i 0]]) ++ [lstate false false]) i R
    rw [List.append_assoc]
    exact hr.app _ (by simp [lstate]; omega)
  · show plainH ((h ++ [[.box ix 0], [.v (.bool false)], [.v (.int .i64 (j : Int))], [.box i 0]]) ++ [lstate false false])
    refine plainH_append (plainH_append hp ?_) ?_
    · intro cs hcs c hc
      simp at hcs
      rcases hcs with rfl | rfl | rfl | rfl <;> simp at hc <;> rw [hc] <;> rfl
    · intro cs hcs c hc
      rw [List.mem_singleton.1 hcs] at hc
      simp [lstate] at hc
      rcases hc with rfl | rfl <;> rfl
  · simp
    exact ⟨ltLL_mono (by omega) hHl, by omega, by omega⟩
  · have hj2 : j < R.l.length := by omega
    obtain ⟨he, hf⟩ := idAt_get ho hj2
    have hw : IntKind.i64.wrap ((j : Int) + 1) = (j : Int) + 1 := wrap64 (by omega) (by omega)
    have hel : ∀ xs, ltLL (h.length + xs.length) xs → _ := fun xs hxs => (hx.app xs hxs).el hj2
    obtain ⟨e1, e2, e3, e4, e5⟩ := hel [[.box ix 0], [.v (.bool false)], [.v (.int .i64 (j : Int))], [.box i 0], lstate true false] (by simp [lstate]; omega)
    have e9 : ¬ (R.l.length : Int) ≤ (j : Int) := by omega
    have ht : R.told j = [.v (.int .i64 (R.l[j].id : Int)), .v (.int .i64 (R.l[j].refs : Int))] := by unfold Rg.told; rw [hf, he]; rfl
    rw [ht]
    simp [e1, e2, e3, e4, e9, hj2, hw]
    simp [rnd, stays, St.turn, ltLL_mono (Nat.le_add_right h.length 5) hHl]
    omega
  · have e1 := (hx.app [[.box ix 0], [.v (.bool false)], [.v (.int .i64 (R.ids.length : Int))], [.box i 0]] (by simp; omega)).top
    have hrA : RegAt lo (h ++ [[.box ix 0], [.v (.bool false)], [.v (.int .i64 (R.ids.length : Int))], [.box i 0]]) i R := hr.app _ (by simp; omega)
    by_cases hL : R.l = []
    · have hlis : lisA b R.l = .sl 0 [] (some true) .exact := by unfold lisA; rw [if_pos hL]
      have hz : R.ids.length = 0 := by rw [hids, hL]; rfl
      have hz2 : R.l.length = 0 := by rw [hL]; rfl
      rw [hlis] at e1
      rw [hz] at e1 hrA ⊢
      simp at e1 hrA
      simp [e1]
      refine xcall_self (by simp) (glen_c hrA) ?_
      simp [hz2, hh]
      done
    · have hlis : lisA b R.l = .bsl b 0 4 R.l.length := by unfold lisA; rw [if_neg hL]
      rw [hlis] at e1
      rw [hids] at e1 hrA ⊢
      simp [e1]
      refine xcall_self (by simp) (glen_c hrA) ?_
      simp [hh]
      done
end Go.Proofs.Ytngkdlfgmpflnaa.Ax
/- Layer 14's statement: a registry lives as the document's does; the calls in a row. -/
namespace Go.Proofs.Ytngkdlfgmpflnaa.Ax
open Go.RowKit Go By
set_option linter.unusedSimpArgs false
set_option linter.unusedVariables false
set_option maxRecDepth 10000

theorem RegAt.keep {lo : Nat} {h h' : List (List AV)} {i : Nat} {R : Rg} (hr : RegAt lo h i R) (hk : ∀ k ∈ R.touch i, h'[k]? = h[k]?) (hlt : ltLL h'.length h') : RegAt lo h' i R :=
  ⟨(hk _ (by simp [Rg.touch])).trans hr.top, (hk _ (by simp [Rg.touch])).trans hr.recs, (hk _ (by simp [Rg.touch])).trans hr.ids, fun s hs => (hk _ (by simp [Rg.touch]; exact .inr (.inr (.inr ⟨s, hs, rfl⟩)))).trans (hr.at_ s hs), hr.low, hr.apart, hr.boxes, hlt⟩
theorem RegAt.touch_lt {lo : Nat} {h : List (List AV)} {i : Nat} {R : Rg} (hr : RegAt lo h i R) : ∀ k ∈ R.touch i, k < h.length := fun k hk => by
  have hla : R.a < h.length := (List.getElem?_eq_some_iff.1 hr.recs).1
  have hlb : R.b < h.length := (List.getElem?_eq_some_iff.1 hr.ids).1
  have hi := hr.i_lt
  unfold Rg.touch at hk
  simp only [List.mem_cons] at hk
  rcases hk with rfl | rfl | rfl | hk
  · exact hi
  · exact hla
  · exact hlb
  · obtain ⟨s, hs, rfl⟩ := List.mem_map.1 hk
    exact hr.box_lt hs
theorem RgOk.len {n : Nat} {R : Rg} (ho : RgOk n R) : R.l.length ≤ n := by
  have := rising_len (k := 0) ho.rise (fun x hx => by obtain ⟨s, hs, rfl⟩ := List.mem_map.1 hx; have := ho.ids s hs; have := ho.last; exact ⟨by omega, by show s.id ≤ n; omega⟩)
  simpa using this
structure LV where
  H : List (List AV)
  R : Rg
  b : Nat
  j : Nat
structure LV.Ok (l : List Dn) (d : LV) : Prop where
  le : d.j ≤ l.length
  reg : RegAt 0 d.H 2 d.R
  ok : RgOk d.j d.R
  x : XAt 0 d.H 3 d.b d.R
  out : 3 ∉ d.R.touch 2
  outb : d.R.l ≠ [] → d.b ∉ d.R.touch 2
  plain : plainH d.H
theorem lv_step {l : List Dn} {H : List (List AV)} {R R' : Rg} {b j : Nat} (hd : LV.Ok l ⟨H, R, b, j⟩) (D : Dn) {fr fx : FuncId} {ar ax : List AV} {rr rx : AV} (hr : RegAt 0 (H ++ [dnC D]) 2 R → Does fr ar 0 (H ++ [dnC D]) 2 R rr R') (hx : ∀ h1 b1, XAt 0 h1 3 b1 R → DoesX fx ax 0 h1 3 b1 R rx R') (ht : ∀ x ∈ R'.touch 2, x ∈ R.touch 2 ∨ H.length + 1 ≤ x) :
    ∃ h1 h2 b1 b2, Contract Try.prog fr ar (H ++ [dnC D]) rr h1 (R.touch 2) ∧ Contract Try.prog fx ax h1 rx h2 [3, b1] ∧ RegAt 0 h2 2 R' ∧ XAt 0 h2 3 b2 R' ∧ 3 ∉ R'.touch 2 ∧ (R'.l ≠ [] → b2 ∉ R'.touch 2) ∧ plainH h2 ∧ h2[H.length]? = some (dnC D) ∧ H.length ∉ R.touch 2 ∧ b1 ≠ H.length ∧ H.length + 1 ≤ h2.length := by
  obtain ⟨_, hreg, _, hX, hout, houtb, hpl⟩ := hd
  dsimp only at hreg hX hout houtb hpl
  have hdlt : ltLL (H.length + [dnC D].length) [dnC D] := by simp [dnC]
  have hA := hreg.app [dnC D] hdlt
  have h3 : 3 < H.length := (List.getElem?_eq_some_iff.1 hX.top).1
  have htl := hreg.touch_lt
  obtain ⟨h1, ct1, hR1, hl1, hk1, hp1⟩ := hr hA
  have hl1' : H.length + 1 ≤ h1.length := by simpa using hl1
  have hdn1 : h1[H.length]? = some (dnC D) := by
    rw [hk1 _ (by simp) (fun hh => by have := htl _ hh; omega)]; simp
  have hplA : plainH (H ++ [dnC D]) := plainH_append hpl fun x hx c hc => by
    rw [List.mem_singleton.1 hx] at hc
    simp [dnC] at hc
    rcases hc with rfl | rfl | rfl | rfl <;> rfl
  have h31 : h1[3]? = H[3]? := by rw [hk1 3 (by simp; omega) hout]; exact List.getElem?_append_left h3
  obtain ⟨b1, hX1, hb1o, hb1n⟩ : ∃ b1, XAt 0 h1 3 b1 R ∧ b1 ∉ R'.touch 2 ∧ b1 ≠ H.length := by
    by_cases hL : R.l = []
    · refine ⟨h1.length, ⟨?_, fun hne => absurd hL hne, ⟨by omega, by omega⟩, by omega, hR1.lt⟩, fun hh => by have := hR1.touch_lt _ hh; omega, by omega⟩
      rw [h31, hX.top]
      unfold lisA
      rw [if_pos hL, if_pos hL]
    · have hbl := (List.getElem?_eq_some_iff.1 (hX.list hL)).1
      refine ⟨b, hX.move h31 (fun _ => ?_) hR1.lt, fun hh => ?_, by omega⟩
      · rw [hk1 b (by simp; omega) (houtb hL)]; exact List.getElem?_append_left hbl
      · rcases ht b hh with h4 | h4
        · exact houtb hL h4
        · omega
  have h3o : 3 ∉ R'.touch 2 := fun hh => by
    rcases ht 3 hh with h4 | h4
    · exact hout h4
    · omega
  obtain ⟨h2, b2, ct2, hX2, hb2, hl2, hk2, hp2⟩ := hx h1 b1 hX1
  have htl1 := hR1.touch_lt
  refine ⟨h1, h2, b1, b2, ct1, ct2, hR1.keep (fun k hk => hk2 k (htl1 k hk) (fun e => h3o (by rw [← e]; exact hk)) (fun e => hb1o (by rw [← e]; exact hk))) hX2.lt, hX2, h3o, fun _ hh => ?_, hp2 (hp1 hplA), ?_, fun hh => by have := htl _ hh; omega, hb1n, by omega⟩
  · rcases hb2 with e | e
    · exact hb1o (by rw [← e]; exact hh)
    · have := htl1 _ hh; omega
  · rw [hk2 _ (by omega) (by omega) (fun e => hb1n e.symm)]; exact hdn1
theorem newX_ok (l : List Dn) : LV.Ok l ⟨newH [] ++ [[.sl 0 [] (some true) .exact, .v (.int .i64 0)]], ⟨0, 1, 0, []⟩, 4, 0⟩ := by
  have r0 := newH_at (h := []) (by simp)
  have o0 := newH_ok []
  have hlen0 : (newH []).length = 3 := by simp [newH]
  have r1 := r0.app [[.sl 0 [] (some true) .exact, .v (.int .i64 0)]] (by simp)
  refine ⟨Nat.zero_le _, r1, o0, ⟨?_, fun hne => absurd rfl hne, ⟨Nat.zero_le _, Nat.zero_le _⟩, by show (3 : Nat) ≠ 4; omega, r1.lt⟩, by simp [Rg.touch], fun hne => absurd rfl hne, ?_⟩
  · show (newH [] ++ [_])[3]? = _
    rw [List.getElem?_append_right (by omega), hlen0]
    rfl
  · intro cs hcs c hc
    simp [newH] at hcs
    rcases hcs with rfl | rfl | rfl <;> simp [mapC] at hc
    · rcases hc with rfl | rfl <;> rfl
    · rcases hc with rfl | rfl | rfl <;> rfl
    · rcases hc with rfl | rfl <;> rfl
theorem glives_c (l : List Dn) : Contract Try.prog 5 [.sl 4 (enc dnC l) none .no] [] (.v (.bool true)) [] [] := by
  refine contract_of k5 mixed (by simp [c5]) fun hh hargs => ?_
  simp [c5]
  refine xcall_self (by simp) (dawake_c _) ?_
  simp
  refine xcall_self (by simp) (dfew_c l _) ?_
  cases hf : fewD l with
  | false =>
    simp
    refine xcall_self (by simp) (dawake_c _) ?_
    simp
  | true =>
  simp
  refine xcall_self (by simp) (gnew_c _) ?_
  have hfew : l.length ≤ 60 ∧ l.all shortD = true := by unfold fewD at hf; simpa using hf
  have hlen0 : (newH []).length = 3 := by simp [newH]
  simp [hlen0]
  refine xloop_ok (D := LV) (fun d => ⟨[(3, .box 2 0), (4, .box 3 0), (25, .sl 4 (enc dnC l) none .no), (26, .v (.int .i64 (l.length : Int))), (27, .v (.int .i64 (d.j : Int)))], [], d.H, []⟩) (LV.Ok l) (fun d => l.length - d.j) _ (newX_ok l) ?_ ?_
  · have := (newX_ok l).reg.lt
    simp [hlen0] at this
    simp [Leq, hlen0, this, leqH_take]
    done
  · rintro ⟨H, R, b, j⟩ hd
    have hj := hd.le
    have ho := hd.ok
    dsimp only at hj ho
    by_cases hlt : j < l.length
    · have hw : IntKind.i64.wrap ((j : Int) + 1) = (j : Int) + 1 := wrap64 (by omega) (by omega)
      have hsh := shortD_iff.1 (List.all_eq_true.1 hfew.2 l[j] (List.getElem_mem hlt))
      have hRl := ho.len
      have h3H : 3 < H.length := (List.getElem?_eq_some_iff.1 hd.x.top).1
      simp [hlt, dnC]
      by_cases hp : l[j].op = 0 ∨ l[j].op = 1 ∨ l[j].op = 2
      · have ho' := ho.put l[j].st hsh ((H ++ [dnC l[j]]).length + 2)
        obtain ⟨h1, h2, b1, b2, ct1, ct2, hR2, hX2, q0, qb, hP2, q2, q3, q4, q5⟩ := lv_step hd l[j] (fun hA => gput_c hA ho (by omega) l[j].st (by omega) (keyB_size (fewK_of hsh))) (fun h1 b1 hX => xput_c hX ho (by omega) (by omega) l[j].st (by omega) ((H ++ [dnC l[j]]).length + 2)) (fun x hx => by
          rcases put_touch hx with h4 | h4
          · exact .inl h4
          · right; simp at h4; omega)
        generalize R.put l[j].st ((H ++ [dnC l[j]]).length + 2) = R' at *
        have hlen' : R'.l.length ≤ 1000 := by have := ho'.len; omega
        rw [smC_mk] at ct1 ct2
        simp only [dnC] at ct1 q2
        rcases hp with hp | hp | hp <;>
        · rw [hp] at ct1 q2
          simp [hp]
          refine xcall_self (by simp) ct1 ?_
          simp [q3]
          refine xcall_self (by simp) ct2 ?_
          have q6 : ¬ H.length = 3 := by omega
          have q7 : ¬ H.length = b1 := fun e => q4 e.symm
          simp [q2, q3, q6, q7]
          have hdn2 : ∀ xs, (h2 ++ xs)[H.length]? = h2[H.length]? := fun xs => List.getElem?_append_left (by omega)
          refine xcall_self (by simp) (gget_c hR2 ho' l[j].id) ?_
          simp [smC_mk, hdn2, q2]
          refine xcall_self (by simp) (xget_c (hX2.app _ (by simp)) ho' hlen' l[j].id) ?_
          simp [smC_mk, hdn2, q2]
          refine xcall_self (by simp) (gfindS_c (hR2.app _ (by simp)) ho' l[j].st (by omega)) ?_
          simp [hdn2, q2]
          refine xcall_self (by simp) (xfindS_c (hX2.app _ (by simp)) ho' hlen' l[j].st) ?_
          simp [hdn2, q2]
          have hso : (stOf (R'.find l[j].id)).oids.length ≤ 20 := by
            cases hf : R'.find l[j].id with
            | none => simp [stOf]
            | some s => exact (ho'.short s (find_mem hf).1).2
          refine xcall_self (by simp) (krsame_c (stOf (R'.find l[j].id)) (stOf (R'.find l[j].id)) (by omega) _) ?_
          rw [sameK_refl]
          simp [hdn2, q2]
          refine xcall_self (by simp) (grefs_c (hR2.app _ (by simp)) l[j].id) ?_
          simp
          refine xcall_self (by simp) (xrefs_c (hX2.app _ (by simp)) ho' hlen' l[j].id) ?_
          simp
          refine xcall_self (by simp) (lsame_c (hR2.app _ (by simp)) (hX2.app _ (by simp)) ho' (by omega) (plainH_append hP2 (by intro x hx c hc; simp at hx; subst hx; simp at hc; rcases hc with rfl | rfl <;> rfl))) ?_
          simp [hw]
          refine ⟨⟨h2, R', b2, j + 1⟩, ⟨by show j + 1 ≤ l.length; omega, hR2, ho', hX2, q0, qb, hP2⟩, by show l.length - (j + 1) < l.length - j; omega, ?_⟩
          have hlt2 := hX2.lt
          simp [Leq, hlt2, leqH_take]
          omega
      · have hp0 : ¬ l[j].op = 0 := fun h => hp (.inl h)
        have hp1 : ¬ l[j].op = 1 := fun h => hp (.inr (.inl h))
        have hp2 : ¬ l[j].op = 2 := fun h => hp (.inr (.inr h))
        by_cases hp3 : l[j].op = 3
        · obtain ⟨h1, h2, b1, b2, ct1, ct2, hR2, hX2, q0, qb, hP2, q2, q3, q4, q5⟩ := lv_step hd l[j] (fun hA => gref_c hA ho (by omega) l[j].id) (fun h1 b1 hX => xref_c hX ho (by omega) (by omega) l[j].id) (fun x hx => .inl (ref_touch hx))
          have ho' := ho.ref l[j].id
          generalize R.ref l[j].id = R' at *
          have hlen' : R'.l.length ≤ 1000 := by have := ho'.len; omega
          simp only [dnC] at ct1 q2
          rw [hp3] at ct1 q2
          simp [hp3]
          refine xcall_self (by simp) ct1 ?_
          simp [q3]
          refine xcall_self (by simp) ct2 ?_
          have q6 : ¬ H.length = 3 := by omega
          have q7 : ¬ H.length = b1 := fun e => q4 e.symm
          simp [q2, q3, q6, q7]
          have hdn2 : ∀ xs, (h2 ++ xs)[H.length]? = h2[H.length]? := fun xs => List.getElem?_append_left (by omega)
          refine xcall_self (by simp) (gget_c hR2 ho' l[j].id) ?_
          simp [smC_mk, hdn2, q2]
          refine xcall_self (by simp) (xget_c (hX2.app _ (by simp)) ho' hlen' l[j].id) ?_
          simp [smC_mk, hdn2, q2]
          refine xcall_self (by simp) (gfindS_c (hR2.app _ (by simp)) ho' l[j].st (by omega)) ?_
          simp [hdn2, q2]
          refine xcall_self (by simp) (xfindS_c (hX2.app _ (by simp)) ho' hlen' l[j].st) ?_
          simp [hdn2, q2]
          have hso : (stOf (R'.find l[j].id)).oids.length ≤ 20 := by
            cases hf : R'.find l[j].id with
            | none => simp [stOf]
            | some s => exact (ho'.short s (find_mem hf).1).2
          refine xcall_self (by simp) (krsame_c (stOf (R'.find l[j].id)) (stOf (R'.find l[j].id)) (by omega) _) ?_
          rw [sameK_refl]
          simp [hdn2, q2]
          refine xcall_self (by simp) (grefs_c (hR2.app _ (by simp)) l[j].id) ?_
          simp
          refine xcall_self (by simp) (xrefs_c (hX2.app _ (by simp)) ho' hlen' l[j].id) ?_
          simp
          refine xcall_self (by simp) (lsame_c (hR2.app _ (by simp)) (hX2.app _ (by simp)) ho' (by omega) (plainH_append hP2 (by intro x hx c hc; simp at hx; subst hx; simp at hc; rcases hc with rfl | rfl <;> rfl))) ?_
          simp [hw]
          refine ⟨⟨h2, R', b2, j + 1⟩, ⟨by show j + 1 ≤ l.length; omega, hR2, ho', hX2, q0, qb, hP2⟩, by show l.length - (j + 1) < l.length - j; omega, ?_⟩
          have hlt2 := hX2.lt
          simp [Leq, hlt2, leqH_take]
          omega
        · obtain ⟨h1, h2, b1, b2, ct1, ct2, hR2, hX2, q0, qb, hP2, q2, q3, q4, q5⟩ := lv_step hd l[j] (fun hA => gdrop_c hA ho (by omega) l[j].id) (fun h1 b1 hX => xdrop_c hX ho (by omega) (by omega) l[j].id) (fun x hx => .inl (drop_touch hx))
          have ho' := ho.drop l[j].id
          generalize R.drop l[j].id = R' at *
          have hlen' : R'.l.length ≤ 1000 := by have := ho'.len; omega
          simp only [dnC] at ct1 q2
          simp [hp0, hp1, hp2, hp3]
          refine xcall_self (by simp) ct1 ?_
          simp [q3]
          refine xcall_self (by simp) ct2 ?_
          have q6 : ¬ H.length = 3 := by omega
          have q7 : ¬ H.length = b1 := fun e => q4 e.symm
          simp [q2, q3, q6, q7]
          have hdn2 : ∀ xs, (h2 ++ xs)[H.length]? = h2[H.length]? := fun xs => List.getElem?_append_left (by omega)
          refine xcall_self (by simp) (gget_c hR2 ho' l[j].id) ?_
          simp [smC_mk, hdn2, q2]
          refine xcall_self (by simp) (xget_c (hX2.app _ (by simp)) ho' hlen' l[j].id) ?_
          simp [smC_mk, hdn2, q2]
          refine xcall_self (by simp) (gfindS_c (hR2.app _ (by simp)) ho' l[j].st (by omega)) ?_
          simp [hdn2, q2]
          refine xcall_self (by simp) (xfindS_c (hX2.app _ (by simp)) ho' hlen' l[j].st) ?_
          simp [hdn2, q2]
          have hso : (stOf (R'.find l[j].id)).oids.length ≤ 20 := by
            cases hf : R'.find l[j].id with
            | none => simp [stOf]
            | some s => exact (ho'.short s (find_mem hf).1).2
          refine xcall_self (by simp) (krsame_c (stOf (R'.find l[j].id)) (stOf (R'.find l[j].id)) (by omega) _) ?_
          rw [sameK_refl]
          simp [hdn2, q2]
          refine xcall_self (by simp) (grefs_c (hR2.app _ (by simp)) l[j].id) ?_
          simp
          refine xcall_self (by simp) (xrefs_c (hX2.app _ (by simp)) ho' hlen' l[j].id) ?_
          simp
          refine xcall_self (by simp) (lsame_c (hR2.app _ (by simp)) (hX2.app _ (by simp)) ho' (by omega) (plainH_append hP2 (by intro x hx c hc; simp at hx; subst hx; simp at hc; rcases hc with rfl | rfl <;> rfl))) ?_
          simp [hw]
          refine ⟨⟨h2, R', b2, j + 1⟩, ⟨by show j + 1 ≤ l.length; omega, hR2, ho', hX2, q0, qb, hP2⟩, by show l.length - (j + 1) < l.length - j; omega, ?_⟩
          have hlt2 := hX2.lt
          simp [Leq, hlt2, leqH_take]
          omega
    · have : j = l.length := by omega
      subst this
      simp
      refine xcall_self (by simp) (dawake_c _) ?_
      simp
      done
theorem glives_l (l : List Dn) (hl : l.length ≤ maxLen ∧ ∀ x ∈ l, OkDn x) : Contract Try.prog 5 [.sl 4 (enc dnC l) none .no] [] (.v (.bool true)) [] [] := glives_c l
end Go.Proofs.Ytngkdlfgmpflnaa.Ax
namespace Go.Proofs.Ytngkdlfgmpflnaa.regLives
open Go.ChangeShapes Go.WideShapes Go.ChangeAt Go.RowKit
open Go.ChangeMaps (open_string shut_string)
set_option linter.unusedVariables false

theorem own : ownKnob Try.prog.godebug = none := by kernel_rfl
theorem laidOut : laidOutB Try.prog = true := by kernel_rfl

set_option maxRecDepth 100000 in
theorem lifted (os : Os) (started : os.Started) (H : Type) (enc : TypeId × Value → H) :
    ReturnsInHanded {} Try.checked os 5 .any (Rows.regLivesSpec.pre6 enc Try.prog Try.f5 Rows.regLivesRow.domain false) (Rows.regLivesSpec.post enc Try.prog Try.f5 false true false false) := by
  refine returnsInHanded_of_change (C := Try.checked) own started (by kernel_rfl) Try.func5
    (ChangeSpec.witness6 (enc := enc) (C := Try.checked) false ⟨#[], #[.slice none 0 0], []⟩ 8 (by kernel_rfl) (by kernel_rfl) (by kernel_rfl) (by kernel_rfl)) ?_
  intro W base args ds gs before hval0 hW hcnd _
  have hval : ∀ (j : Nat) t v, Try.f5.params[j]? = some t → args[j]? = some v → Value.okWide Try.prog W .any base t v := hval0
  have hW' := hW
  obtain ⟨p, q, hA0, hV, rfl, hfz, hnd⟩ := hW
  have hA : DataW.TrodAll enc Try.prog W 0 (fun _ => true) true Try.f5.params.toList args.toList ds p := hA0
  rw [Try.params5] at hA hval
  obtain ⟨v0, vs0, d0, ds0, p0, q0, hargs, rfl, rfl, h0, r0⟩ := trodAll_cons hA
  obtain ⟨rfl, rfl, rfl⟩ := trodAll_nil r0
  obtain rfl : args = #[v0] := by cases args; simp_all
  obtain ⟨rfl, rfl⟩ := trodVars_none hV
  have k0 := h0
  have lt0 : ∀ x ∈ p0, x.block < W.heap.size := by obtain ⟨m, hm⟩ := k0; exact DataW.trod_lt m _ _ _ hm
  obtain ⟨a0, ok0, s0⟩ := Ax.arg_slice Try.underlying32 Ax.sh_dnCL (hval 0 32 v0 rfl rfl) h0
  clear hA0 hval0
  refine (Ax.law_walk (w := W) (Ax.dom_any W) (Ax.glives_l a0 ok0) (by simp) (.cons s0 .nil)).mono fun e W' ⟨he, bel⟩ => ?_
  subst he
  exact ⟨_, rfl, _, _, _, [], _, [], hW', trodAll_mk1 (shut_bool Try.underlying4 _), (trodAll_cons_mk (Below.trod laidOut (by kernel_rfl) (of_decide_eq_true (by kernel_rfl)) k0 bel lt0) trodAll_mk0), rfl, bel.frame _, fun h => by cases h⟩

theorem over : Rows.regLivesRow.holds Try.pinned (OpenSpec.ofChange Rows.regLivesSpec) :=
  OpenClaim.holds_of_wide 5 Try.f5 rfl rfl rfl rfl rfl rfl rfl ⟨rfl, rfl, rfl, rfl, rfl⟩ rfl rfl rfl rfl rfl (by kernel_rfl) Try.func5 (by kernel_rfl)
    (of_decide_eq_true (by kernel_rfl)) (by unfold Func.isWrapper; first | (rw [if_pos (by decide +kernel)]; kernel_rfl) | (rw [if_neg (by decide +kernel)]; exact ⟨rfl, rfl⟩))
    (fun os started H enc _ => lifted os started H enc)

theorem proved : Rows.RegLivesSaid := over
#print axioms proved
end Go.Proofs.Ytngkdlfgmpflnaa.regLives
