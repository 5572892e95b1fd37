/- Sessions over values without memory: what one is, and what stays of it. -/
import Derived.Test.YtlbgjlmokpkkeaaGreatDoorQAxX
import Derived.Test.YtlbgjlmokpkkeaaGreatDoorRows
import Derived.Test.YtlbgjlmokpkkeaaGreatDoorQAxPf
import Derived.Test.YtlbgjlmokpkkeaaGreatDoorQAxFq
import Derived.Test.YtlbgjlmokpkkeaaGreatDoorQAxBl
import Derived.Test.YtlbgjlmokpkkeaaGreatDoorQCodeR
import Derived.Test.YtlbgjlmokpkkeaaGreatDoorQAxPk
import Derived.Test.YtlbgjlmokpkkeaaGreatDoorQAxGc
/- The texts of functions over values without memory, as the kernel reckons them out of the program. -/
namespace Go.Proofs.YtlbgjlmokpkkeaaGreatDoor.Ax
open Go.RowKit Go By

def c5 : XFun := ⟨14, (.seq (.ops [⟨(some 4), (.assign (.const (.bool false))), none⟩]) (.seq (.ops [⟨(some 5), (.move (.tmp 0)), none⟩, ⟨(some 6), (.lenL (.tmp 5)), none⟩, ⟨(some 7), (.move (.tmp 1)), none⟩, ⟨(some 8), (.bin .leq (.tmp 6) (.tmp 7)), none⟩, ⟨(some 9), (.move (.tmp 8)), none⟩, ⟨(some 10), (.move (.tmp 0)), (some (9, true))⟩, ⟨(some 11), (.call 15 [(.tmp 10), (.func 16)]), (some (9, true))⟩, ⟨(some 12), (.un .not (.tmp 11)), (some (9, true))⟩, ⟨(some 13), (.pick (.tmp 9) (.tmp 12) (.const (.bool false))), none⟩, ⟨(some 4), (.assign (.tmp 13)), none⟩]) .ret)), [(.move (.tmp 4))]⟩
theorem k5 : cfun Tryz.prog 5 = some c5 := by kernel_rfl
end Go.Proofs.YtlbgjlmokpkkeaaGreatDoor.Ax
/- What package sess calls of the layers below, over values without memory: a fault's message; messages that are few and short; a message's bytes. -/
namespace Go.Proofs.YtlbgjlmokpkkeaaGreatDoor.Ax
open Go.RowKit Go By YtlbgjlmokpkkeaaGreatDoor.Nm Sc Dg
set_option linter.unusedSimpArgs false
set_option linter.unusedVariables false
set_option maxRecDepth 10000

/-! ### A fault -/
/-! ### Messages that are few and short -/
/-! ### Messages' bytes -/
theorem sq_numE (size n : Int) (h : size ≤ 4) : (numE size n).length ≤ 4 := by
  have := Ax.put_len n size h []
  simpa [numE] using this
end Go.Proofs.YtlbgjlmokpkkeaaGreatDoor.Ax
namespace Go.Proofs.YtlbgjlmokpkkeaaGreatDoor.Ax
open Go.RowKit Go By
set_option linter.unusedSimpArgs false
set_option linter.unusedVariables false
set_option maxRecDepth 10000

/-- A statement. -/
structure Sx where
  text : List UInt8
  oids : List Int
def sxC (s : Sx) : List AV := [.v (.string (strB s.text)), .sl 1 (enc intC s.oids) none .no]
/-- A session: its engine, its statements, its portals. -/
structure Zs where
  e : Nat
  T : Eg
  a : Nat
  clock : Nat
  st : List (KE Sx)
  p : Nat
  S : Ps
  status : Int
  skips : Bool
  over : Bool
  /-- Is nothing owned in the whole of memory? (The library sorts only there.) -/
  pln : Bool
def Zs.cells (Z : Zs) : List AV := mapC Z.clock (Z.st.map (KE.ent sxC))
def Zs.top (Z : Zs) : List AV := [.box Z.e 0, .mp Z.a 2 false, .box Z.p 0, .v (.int .u8 Z.status), .v (.bool Z.skips), .v (.bool Z.over)]
def Zs.own (Z : Zs) (i : Nat) : List Nat := [i, Z.e, Z.T.a, Z.a]
def Zs.vars (Z : Zs) (i : Nat) : List Nat := Z.p :: (Z.own i ++ Z.S.vars)
/-- Where it lies, and what lies beside it. -/
structure SsG (L : List (Nat × List AV)) (h : List (List AV)) (i : Nat) (Z : Zs) : Prop where
  top : h[i]? = some Z.top
  eng : EgAt h Z.e Z.T
  ents : h[Z.a]? = some Z.cells
  por : PsAt h Z.p Z.S
  nd : (Z.own i).Nodup
  sep : ∀ q ∈ Z.own i, q ≠ Z.p ∧ q ∉ Z.S.vars
  tmp : ∀ t ∈ L, h[t.1]? = some t.2 ∧ t.1 ∉ Z.vars i
  pl : Z.pln = true → plainH h
section
variable {L : List (Nat × List AV)} {h : List (List AV)} {i : Nat} {Z : Zs}
theorem SsG.i_lt (g : SsG L h i Z) : i < h.length := (List.getElem?_eq_some_iff.1 g.top).1
theorem SsG.a_lt (g : SsG L h i Z) : Z.a < h.length := (List.getElem?_eq_some_iff.1 g.ents).1
theorem SsG.e_lt (g : SsG L h i Z) : Z.e < h.length := g.eng.i_lt
theorem SsG.ea_lt (g : SsG L h i Z) : Z.T.a < h.length := g.eng.a_lt
theorem SsG.p_lt (g : SsG L h i Z) : Z.p < h.length := g.por.i_lt
theorem SsG.hh (g : SsG L h i Z) : ltLL h.length h := g.por.lt
theorem Zs.own_mem {q : Nat} : q ∈ Z.own i ↔ q = i ∨ q = Z.e ∨ q = Z.T.a ∨ q = Z.a := by simp [Zs.own]
theorem SsG.own_lt (g : SsG L h i Z) {q : Nat} (hq : q ∈ Z.own i) : q < h.length := by
  rcases Zs.own_mem.1 hq with rfl | rfl | rfl | rfl
  · exact g.i_lt
  · exact g.e_lt
  · exact g.ea_lt
  · exact g.a_lt
theorem Zs.vars_mem {q : Nat} : q ∈ Z.vars i ↔ q = Z.p ∨ q ∈ Z.own i ∨ q ∈ Z.S.vars := by simp [Zs.vars]
theorem SsG.vars_lt (g : SsG L h i Z) {q : Nat} (hq : q ∈ Z.vars i) : q < h.length := by
  rcases Zs.vars_mem.1 hq with rfl | hq | hq
  · exact g.p_lt
  · exact g.own_lt hq
  · exact g.por.var_lt hq
/-- One variable of its own turns. -/
theorem SsG.set (g : SsG L h i Z) {Z' : Zs} {q : Nat} {cs : List AV} (hq : q ∈ Z.own i) (he : Z'.e = Z.e) (hT : Z'.T.a = Z.T.a) (ha : Z'.a = Z.a) (hp : Z'.p = Z.p) (hS : Z'.S = Z.S) (hb : Z'.pln = Z.pln) (hlt : ltL h.length cs) (hid : ∀ x ∈ cs, x.idOf = .none)
    (htop : (h.set q cs)[i]? = some Z'.top) (heng : (h.set q cs)[Z.e]? = some (egC Z'.T.a Z'.T.n) ∧ (h.set q cs)[Z.T.a]? = some Z'.T.cells) (hents : (h.set q cs)[Z.a]? = some Z'.cells) : SsG L (h.set q cs) i Z' := by
  have hown : Z'.own i = Z.own i := by unfold Zs.own; rw [he, hT, ha]
  have hvars : Z'.vars i = Z.vars i := by unfold Zs.vars; rw [hown, hp, hS]
  obtain ⟨s1, s2⟩ := g.sep q hq
  have hl := ltLL_set (i := q) g.hh hlt
  refine ⟨htop, ⟨by rw [he]; exact heng.1, by rw [hT]; exact heng.2, by rw [he, hT]; exact g.eng.apart⟩, by rw [ha]; exact hents, ?_, by rw [hown]; exact g.nd, by rw [hown, hp, hS]; exact g.sep, fun t ht => ?_, fun hh => plainH_set (g.pl (hb ▸ hh)) hid _⟩
  · rw [hp, hS]
    exact g.por.move (List.getElem?_set_ne s1) (fun p hp2 => List.getElem?_set_ne fun e => s2 (by rw [e]; exact hp2)) (by rw [List.length_set]; exact hl)
  · obtain ⟨t1, t2⟩ := g.tmp t ht
    refine ⟨by rw [List.getElem?_set_ne fun e => t2 (by rw [← e]; exact Zs.vars_mem.2 (.inr (.inl hq)))]; exact t1, by rw [hvars]; exact t2⟩
end
section
variable {L : List (Nat × List AV)} {h : List (List AV)} {i : Nat} {Z : Zs}
end
end Go.Proofs.YtlbgjlmokpkkeaaGreatDoor.Ax
