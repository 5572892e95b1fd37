/- What a function answers that holds a new variable's slice. No program is named here. -/
import Derived.Test.YtplbobfbdlapcaaQAxX
namespace Go.Proofs.Ytplbobfbdlapcaa.Ax
open Go.RowKit Go By
set_option linter.unusedSimpArgs false
set_option linter.unusedVariables false
set_option maxRecDepth 10000

section
variable {P : Program} {f : FuncId} {args : List AV} {h : List (List AV)}
theorem contract_newboxA (hE : entersB P f = true) {k n : Nat} {cs : List AV} {r : AV} (hr : r.idOf = none) (hid : ∀ c ∈ cs, c.idOf = none)
    (hc : ∀ (G : Ghost) (w : World) (vs : List Value), WorldOk G w → SeesH G h → SeesL G args vs → Calls P f vs.toArray w fun e w' => ∃ (v : Value) (g cap : Nat) (us : List Value), e = .returned v ∧ (∀ G' : Ghost, Sees G' (.bsl h.length 0 k n) (.slice (some ⟨g, 0, none⟩) n cap) → Sees G' r v) ∧ w.heap.size ≤ g ∧ g < w'.heap.size ∧ n ≤ cap ∧ (cap ≤ maxLen ∧ ∀ j, j < cap * k → (w'.cell? ⟨g, j, none⟩).isSome = true ∧ w'.frozen? ⟨g, j, none⟩ = false) ∧ us.length = cs.length ∧ (∀ x ∈ us, x.oneCell' = true) ∧
      (∀ (j : Nat) (c : AV), cs[j]? = some c → Sees G c (us.getD j undef)) ∧ (∀ (j : Nat) (x : Value), us[j]? = some x → w'.cell? ⟨g, j, none⟩ = some x ∧ w'.frozen? ⟨g, j, none⟩ = false) ∧ Below w.heap.size w w') :
    Contract P f args h r (h ++ [cs]) [] := by
  refine ⟨enters_ofB hE, fun G w vs cls hW hS hvs hown hoh => ?_⟩
  refine (hc G w vs hW hS hvs).mono fun e w' he => ?_
  obtain ⟨v, g, cap, us, rfl, hseer, hg, hgw, hncap, hmax, hlen, hone, hsee, hcells, hb⟩ := he
  have hbelow : Below G.w0.heap.size G.w0 w' := hW.below.trans (hb.mono hW.size)
  have hcell : ∀ (b j : Nat), b < w.heap.size → w'.cell? ⟨b, j, none⟩ = w.cell? ⟨b, j, none⟩ ∧ w'.frozen? ⟨b, j, none⟩ = w.frozen? ⟨b, j, none⟩ := fun b j hlt =>
    ⟨World.cell?_of_block (w := w) (a := ⟨b, j, none⟩) (hb.block b hlt), World.frozen?_of_block (w := w) (a := ⟨b, j, none⟩) (hb.block b hlt)⟩
  have hfresh : G.bufs g = none := by
    cases hB : G.bufs g with
    | none => rfl
    | some B => have := (hW.buf g B hB).2.1; omega
  have hE' : Ext G (G.newRoom g us (cap * k)) := Ext.newRoom (fun i hi => by have := (hW.boxlt hi).1; omega) us _
  have hl0 : h.length = G.boxv.length := hS.1
  have hlb : G.boxv.length = G.boxes.length := hW.len
  have at_ : ∀ (i : Nat) (ds : List AV) (vs : List Value), (h ++ [cs])[i]? = some ds → (G.boxv ++ [us])[i]? = some vs → (h[i]? = some ds ∧ G.boxv[i]? = some vs) ∨ (i = h.length ∧ ds = cs ∧ vs = us) := fun i ds vs e1 e2 => by
    by_cases hi : i < h.length
    · rw [List.getElem?_append_left hi] at e1
      rw [List.getElem?_append_left (by omega)] at e2
      exact .inl ⟨e1, e2⟩
    · have hi2 : i = h.length := by
        have := (List.getElem?_eq_some_iff.1 e1).1
        simp at this; omega
      subst hi2
      simp at e1
      rw [hl0] at e2
      simp at e2
      exact .inr ⟨rfl, e1.symm, e2.symm⟩
  have hW' : WorldOk (G.newRoom g us (cap * k)) w' := by
    refine ⟨hbelow, fun b B hB => ?_, fun i b vs2 h1 h2 => ?_, ⟨hW.nodup.snoc hW.len (fun i hi => by have := (hW.boxlt hi).1; omega) us, hW.dom⟩, by simp [Ghost.newRoom, hW.len], hW.obj.newRoom (keepsO_below hb) hW.len hg hmax.2⟩
    · obtain ⟨h1, h2, h3, h4, h5⟩ := hW.buf b B hB
      exact ⟨h1, by have := hb.size; omega, h3, fun j hj => by rw [(hcell b j h2).1, (hcell b j h2).2]; exact h4 j hj, fun j x hx => by rw [(hcell b j h2).1]; exact h5 j x hx⟩
    · have h1' : (G.boxes ++ [g])[i]? = some b := h1
      have h2' : (G.boxv ++ [us])[i]? = some vs2 := h2
      by_cases hi : i < G.boxes.length
      · rw [List.getElem?_append_left hi] at h1'
        rw [List.getElem?_append_left (by omega)] at h2'
        obtain ⟨h3, h4, h5, h6⟩ := hW.box i b vs2 h1' h2'
        refine ⟨h3, by have := hb.size; omega, h5, fun j x hx hkn => ?_⟩
        have hkn' : (if b = g then (none, cap * k) else G.kr b).1 = none := hkn
        rw [if_neg (by omega)] at hkn'
        rw [Ghost.newRoom_old hi, (hcell b _ h4).1, (hcell b _ h4).2]; exact h6 j x hx hkn'
      · have hi2 : i = G.boxes.length := by
          have := (List.getElem?_eq_some_iff.1 h1').1
          simp at this; omega
        subst hi2
        simp at h1'
        rw [← hlb] at h2'
        simp at h2'
        subst h1' h2'
        exact ⟨by have := hW.size; show G.w0.heap.size ≤ _; omega, hgw, fun _ => hfresh, fun j x hx _ => by rw [Ghost.newRoom_new, Nat.zero_add]; exact hcells j x hx⟩
  refine ⟨_, G.newRoom g us (cap * k), cls, rfl, hE', hW', ⟨by simp [Ghost.newRoom, hS.1], fun i ds vs2 h1 h2 => ?_⟩, fun i ds vs2 h1 h2 j c hj => ?_, ?_, .none _ hr, fun c hc => (by rw [hr] at hc; cases hc), fun i hi _ => ?_, fun b B hB _ => hB⟩
  · rcases at_ i ds vs2 h1 h2 with ⟨e1, e2⟩ | ⟨rfl, rfl, rfl⟩
    · obtain ⟨h3, h4, h5⟩ := hS.2 i ds vs2 e1 e2
      exact ⟨h3, h4, fun j c hj => (h5 j c hj).ext hE'⟩
    · exact ⟨hlen, hone, fun j c hj => (hsee j c hj).ext hE'⟩
  · rcases at_ i ds vs2 h1 h2 with ⟨e1, e2⟩ | ⟨rfl, rfl, rfl⟩
    · obtain ⟨h3, h4⟩ := hoh i ds vs2 e1 e2 j c hj
      exact ⟨h3.move fun b y B hB _ hbB hcl => ⟨hbB, hcl, .inr (.inr ⟨i, ds, vs2, j, c, e1, e2, hj, hB⟩)⟩, h4⟩
    · have hn := hid c (List.mem_of_getElem? hj)
      exact ⟨.none _ hn, fun x hx => by rw [hn] at hx; cases hx⟩
  · have hbn : (G.newRoom g us (cap * k)).base h.length = 0 := by rw [hl0, hlb]; exact Ghost.newRoom_new
    refine hseer _ (Sees.bsl (G := G.newRoom g us (cap * k)) h.length 0 k n g cap ⟨?_, ?_⟩ hncap ⟨hmax.1, ?_⟩ 0 (.inr (by rw [hbn])))
    · show (G.boxes ++ [g])[h.length]? = some g
      rw [hl0, hlb]; simp
    · show (if g = g then (none, cap * k) else G.kr g : Option Kind × Nat).1 = none
      rw [if_pos rfl]
    · rw [hbn]
      show _ ≤ (if g = g then (none, cap * k) else G.kr g : Option Kind × Nat).2
      rw [if_pos rfl, Nat.zero_add]
      exact Nat.le_refl _
  · show (G.boxv ++ [us])[i]? = _
    rw [List.getElem?_append_left hi]
end
end Go.Proofs.Ytplbobfbdlapcaa.Ax
