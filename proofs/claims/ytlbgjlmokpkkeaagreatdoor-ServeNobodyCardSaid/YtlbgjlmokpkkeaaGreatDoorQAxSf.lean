/- Sessions over values without memory: what is told of one; a new one; awake; nobody's. -/
import Derived.Test.YtlbgjlmokpkkeaaGreatDoorQAxX
import Derived.Test.YtlbgjlmokpkkeaaGreatDoorRows
import Derived.Test.YtlbgjlmokpkkeaaGreatDoorQAxSz
import Derived.Test.YtlbgjlmokpkkeaaGreatDoorQAxRo
import Derived.Test.YtlbgjlmokpkkeaaGreatDoorQAxSy
import Derived.Test.YtlbgjlmokpkkeaaGreatDoorQAxSr
import Derived.Test.YtlbgjlmokpkkeaaGreatDoorQAxEr
import Derived.Test.YtlbgjlmokpkkeaaGreatDoorQAxSw
/- The texts of functions over values without memory, as the kernel reckons them out of the program. -/
namespace Go.Proofs.YtlbgjlmokpkkeaaGreatDoor.Ax
open Go.RowKit Go By

end Go.Proofs.YtlbgjlmokpkkeaaGreatDoor.Ax
/- Layer 29 (tx), over values without memory. -/
namespace Go.Proofs.YtlbgjlmokpkkeaaGreatDoor.Ax
open Go.RowKit Go By Dg
set_option linter.unusedSimpArgs false
set_option linter.unusedVariables false
set_option maxRecDepth 10000

/-! ### The document's, and the laws -/
end Go.Proofs.YtlbgjlmokpkkeaaGreatDoor.Ax
/- Sessions over values without memory: bind, describe; what blames, what is ready. -/
namespace Go.Proofs.YtlbgjlmokpkkeaaGreatDoor.Ax
open Go.RowKit Go By
set_option linter.unusedSimpArgs false
set_option linter.unusedVariables false
set_option maxRecDepth 10000

section
variable {L : List (Nat × List AV)} {h : List (List AV)} {i : Nat} {Z : Zs}
theorem SsG.at_ (g : SsG L h i Z) (xs : List (List AV)) : (h ++ xs)[i]? = some Z.top := by rw [List.getElem?_append_left g.i_lt]; exact g.top
/-! ### Describe -/
/-! ### Bind -/
end
end Go.Proofs.YtlbgjlmokpkkeaaGreatDoor.Ax
/- Sessions over values without memory: messages that may be said; what holds of a session that was told messages. -/
namespace Go.Proofs.YtlbgjlmokpkkeaaGreatDoor.Ax
open Go.RowKit Go By YtlbgjlmokpkkeaaGreatDoor.Nm Dg
set_option linter.unusedSimpArgs false
set_option linter.unusedVariables false
set_option maxRecDepth 10000

/-! ### Messages -/
/-! ### A message that comes in; a session -/
section
variable {c : Bool} {n : Nat} {Z : Zs}
end
end Go.Proofs.YtlbgjlmokpkkeaaGreatDoor.Ax
/- Sessions over values without memory: what a verb without rows does; what blames; what is ready. -/
namespace Go.Proofs.YtlbgjlmokpkkeaaGreatDoor.Ax
open Go.RowKit Go By
set_option linter.unusedSimpArgs false
set_option linter.unusedVariables false
set_option maxRecDepth 10000

section
variable {L : List (Nat × List AV)} {h : List (List AV)} {i : Nat} {Z : Zs}
/-! ### What blames -/
/-! ### What is ready -/
end
end Go.Proofs.YtlbgjlmokpkkeaaGreatDoor.Ax
/- Sessions over values without memory: what is seen of one, wherever its parts lie; what a message makes of that. -/
namespace Go.Proofs.YtlbgjlmokpkkeaaGreatDoor.Ax
open Go.RowKit Go By
set_option linter.unusedSimpArgs false
set_option linter.unusedVariables false
set_option maxRecDepth 10000

/-! ### Lists by name -/
section
variable {α β : Type}
def kv (f : α → β) (l : List (KE α)) : List (List UInt8 × β) := l.map fun x => (x.key, f x.val)
end
/-! ### What is seen -/
structure Va where
  n : Nat
  no : List (List UInt8)
  st : List (List UInt8 × Sx)
  ps : List (List UInt8 × Pt)
  status : Int
  skips : Bool
  over : Bool
  pln : Bool
/-! ### What a message makes of it -/
/-! ### Whether anything is owned stays -/
end Go.Proofs.YtlbgjlmokpkkeaaGreatDoor.Ax
/- Sessions over values without memory: execute. -/
namespace Go.Proofs.YtlbgjlmokpkkeaaGreatDoor.Ax
open Go.RowKit Go By
set_option linter.unusedSimpArgs false
set_option linter.unusedVariables false
set_option maxRecDepth 10000

/-- From where a call began to where it stands: which variables it wrote. -/
structure Via (h : List (List AV)) (i : Nat) (Z : Zs) (W : List Nat) (H : List (List AV)) (Z' : Zs) : Prop where
  len : h.length ≤ H.length
  kept : ∀ q < h.length, q ∉ Z.vars i → H[q]? = h[q]?
  wr : ∀ q ∈ W, q < h.length → q ∈ Z.vars i
  vars : ∀ q ∈ Z'.vars i, q ∈ Z.vars i ∨ h.length ≤ q
section
variable {L : List (Nat × List AV)} {h H : List (List AV)} {i : Nat} {Z Z' Z2 : Zs} {W : List Nat}
theorem Via.step (v : Via h i Z W H Z') {wr : List Nat} {h2 : List (List AV)} (hl : H.length ≤ h2.length) (hw : ∀ q ∈ wr, q < H.length → q ∈ Z'.vars i) (hs : ∀ q < H.length, q ∉ Z'.vars i → h2[q]? = H[q]?) (hv : ∀ q ∈ Z2.vars i, q ∈ Z'.vars i ∨ H.length ≤ q) : Via h i Z (wr ++ W) h2 Z2 := by
  have back : ∀ q, q < h.length → q ∈ Z'.vars i → q ∈ Z.vars i := fun q hq hv => by
    rcases v.vars q hv with h1 | h1
    · exact h1
    · omega
  have := v.len
  refine ⟨by omega, fun q hq hn => ?_, fun q hq hlt => ?_, fun q hq => ?_⟩
  · rw [hs q (by omega) fun hh => hn (back q hq hh), v.kept q hq hn]
  · rcases List.mem_append.1 hq with h1 | h1
    · exact back q hlt (hw q h1 (by omega))
    · exact v.wr q h1 hlt
  · rcases hv q hq with h1 | h1
    · exact v.vars q h1
    · exact .inr (by omega)
theorem Via.set (v : Via h i Z W H Z') {q0 : Nat} (hq0 : q0 ∈ Z'.vars i) (cs : List AV) (he : Z2.vars i = Z'.vars i) : Via h i Z (q0 :: W) (H.set q0 cs) Z2 :=
  v.step (wr := [q0]) (by simp) (fun q hq _ => by rw [List.mem_singleton.1 hq]; exact hq0) (fun q hq hn => List.getElem?_set_ne fun e => hn (by rw [← e]; exact hq0)) (fun q hq => .inl (by rw [← he]; exact hq))
end
end Go.Proofs.YtlbgjlmokpkkeaaGreatDoor.Ax
/- Sessions over values without memory: execute, walked. -/
namespace Go.Proofs.YtlbgjlmokpkkeaaGreatDoor.Ax
open Go.RowKit Go By
set_option linter.unusedSimpArgs false
set_option linter.unusedVariables false
set_option maxRecDepth 10000

section
variable {h : List (List AV)} {i : Nat} {Z : Zs}
end
end Go.Proofs.YtlbgjlmokpkkeaaGreatDoor.Ax
/- Sessions over values without memory: a text at once; a step. -/
namespace Go.Proofs.YtlbgjlmokpkkeaaGreatDoor.Ax
open Go.RowKit Go By
set_option linter.unusedSimpArgs false
set_option linter.unusedVariables false
set_option maxRecDepth 10000

section
variable {e o : List (Nat × AV)} {h : List (List AV)} {wr : List Nat} {d : Option Nat} {K : St → List Nat → Prop} {k bytes : Nat}
/-- .. onto a variable's slice, is another one. -/
theorem xappendA_bsl {b off n : Nat} {cs : List AV} {es2 : List (List AV)} {nul2 : Option Bool} {room2 : Room} (hb : h[b]? = some cs) (hne : cs ≠ []) (hf : off + n * k ≤ cs.length) (i1 : ∀ c ∈ cs, c.idOf = none) (h2 : es2 ≠ []) (i2 : ∀ c ∈ es2.flatten, c.idOf = none) (s1 : (n + es2.length) * bytes ≤ 140737488355328) (s2 : n + es2.length ≤ 140737488355328)
    (hK : K (St.puts ⟨e, o, h.set b [] ++ [(cs.drop off).take (n * k) ++ es2.flatten], b :: wr⟩ d (.bsl h.length 0 k (n + es2.length)) false) []) : xappendA ⟨e, o, h, wr⟩ k bytes d (.bsl b off k n) (.sl k es2 nul2 room2) K :=
  .inr (.inl ⟨es2, if_pos rfl, h2, i2, rfl, cs, hb, hne, hf, i1, s1, s2, hK⟩)
end
section
variable {h : List (List AV)} {i : Nat} {Z : Zs}
/-- What a text at once comes to: nothing, and why; a message alone; messages that lie in a variable of their own. -/
inductive OnceR (lo i : Nat) (Z' : Zs) (M : List Bk) (o : Er) (h' : List (List AV)) (v : AV) : Prop
  | err (c t : List UInt8) (ho : o = some (c, t)) (hm : M = []) (hv : v = .tup [.sl 0 [] (some true) .exact, erV (some (c, t))])
  | one (m : Bk) (ho : o = none) (hm : M = [m]) (hv : v = .tup [.sl 11 [bkC m] (some false) .exact, .v .nilIface])
  | many (b : Nat) (ho : o = none) (hm : M ≠ []) (hv : v = .tup [.bsl b 0 11 M.length, .v .nilIface]) (hl : lo ≤ b) (hb : h'[b]? = some (enc bkC M).flatten) (hn : b ∉ Z'.vars i)
end
end Go.Proofs.YtlbgjlmokpkkeaaGreatDoor.Ax
/- Sessions over values without memory: a step; a query; Do. -/
namespace Go.Proofs.YtlbgjlmokpkkeaaGreatDoor.Ax
open Go.RowKit Go By
set_option linter.unusedSimpArgs false
set_option linter.unusedVariables false
set_option maxRecDepth 10000

section
variable {L : List (Nat × List AV)} {h : List (List AV)} {i : Nat} {Z : Zs} {c : Bool} {n : Nat}
/-! ### A query -/
/-- What is said: messages; in a variable of their own, perhaps. -/
inductive RepX (lo i : Nat) (Z' : Zs) (M : List Bk) (h' : List (List AV)) (v : AV) : Prop
  | sl (hv : v = .sl 11 (enc bkC M) none .no)
  | bx (b : Nat) (hl : lo ≤ b) (hv : v = .bsl b 0 11 M.length) (hb : h'[b]? = some (enc bkC M).flatten) (hn : b ∉ Z'.vars i)
end
end Go.Proofs.YtlbgjlmokpkkeaaGreatDoor.Ax
/- Sessions over values without memory: Do; a new session; its names. -/
namespace Go.Proofs.YtlbgjlmokpkkeaaGreatDoor.Ax
open Go.RowKit Go By
set_option linter.unusedSimpArgs false
set_option linter.unusedVariables false
set_option maxRecDepth 10000

section
variable {L : List (Nat × List AV)} {h : List (List AV)} {i : Nat} {Z : Zs} {c : Bool} {n : Nat}
end
end Go.Proofs.YtlbgjlmokpkkeaaGreatDoor.Ax
namespace Go.Proofs.YtlbgjlmokpkkeaaGreatDoor.Ax
open Go.RowKit Go By
set_option linter.unusedSimpArgs false
set_option linter.unusedVariables false
set_option maxRecDepth 10000

section
variable {L : List (Nat × List AV)} {h : List (List AV)} {i : Nat} {Z : Zs}
/-! ### A new one -/
theorem snew_c (e : AV) (he : e.idOf = none) (hu : e.cells = some [e]) (hun : e.unown = e) (h : List (List AV)) (hl : e.lt h.length) : Contract Tryz.prog 34 [e] h (.box (h.length + 3) 0) (h ++ [mapC 0 [], mapC 0 [], [.mp (h.length + 1) 1 true], [e, .mp h.length 2 false, .box (h.length + 2) 0, .v (.int .u8 73), .v (.bool false), .v (.bool false)]]) [] := by
  refine contract_of k34 mixed (by simp [c34]) fun hh hargs => ?_
  have hl4 := ltLL_mono (Nat.le_add_right h.length 4) hh
  have hle := lt_mono (Nat.le_add_right h.length 4) hl
  simp [c34, he]
  refine xcall_self (by simp) (pnew_c _) ?_
  simp [he, hu, hun]
  simp [mapC, hl4, hle]
def z0 (b : Nat) : Zs := ⟨b + 1, newE b, b + 2, 0, [], b + 4, newS (b + 3), 73, false, false, true⟩
end
/-! ### Awake -/
end Go.Proofs.YtlbgjlmokpkkeaaGreatDoor.Ax
