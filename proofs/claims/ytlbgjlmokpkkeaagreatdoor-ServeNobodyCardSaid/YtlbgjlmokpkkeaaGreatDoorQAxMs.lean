/- Maps whose keys are texts, over values without memory: entries in the order in which they came. No program is named here. -/
import Derived.Test.YtlbgjlmokpkkeaaGreatDoorQAxIb
/- Maps over values without memory whose entries are a list's image; variables that own nothing. No program is named here. -/
namespace Go.Proofs.YtlbgjlmokpkkeaaGreatDoor.Ax
open Go.RowKit Go By
set_option linter.unusedSimpArgs false
set_option linter.unusedVariables false
set_option maxRecDepth 10000

/-! ### Entries made out of a list -/
def plainH (h : List (List AV)) : Prop := ∀ cs ∈ h, ∀ c ∈ cs, c.idOf = none
theorem plainH_set {h : List (List AV)} (hp : plainH h) {cs : List AV} (hc : ∀ c ∈ cs, c.idOf = none) (k : Nat) : plainH (h.set k cs) := fun x hx => by
  rcases List.mem_or_eq_of_mem_set hx with h1 | h1
  · exact hp x h1
  · subst h1; exact hc
end Go.Proofs.YtlbgjlmokpkkeaaGreatDoor.Ax
namespace Go.Proofs.YtlbgjlmokpkkeaaGreatDoor.Ax
open Go.RowKit Go By
set_option linter.unusedSimpArgs false
set_option linter.unusedVariables false
set_option maxRecDepth 10000

structure KE (β : Type) where
  key : List UInt8
  born : Nat
  val : β
namespace KE
variable {β : Type}
def ent (f : β → List AV) (x : KE β) : AEnt := ⟨.string (strB x.key), x.born, f x.val⟩
def find (k : List UInt8) (l : List (KE β)) : Option (KE β) := l.find? fun x => decide (x.key = k)
def get (k : List UInt8) (l : List (KE β)) : Option β := (find k l).map KE.val
def upd (k : List UInt8) (v : β) (x : KE β) : KE β := if x.key = k then { x with val := v } else x
def put (k : List UInt8) (clock : Nat) (v : β) (l : List (KE β)) : List (KE β) := if (find k l).isSome = true then l.map (upd k v) else l ++ [⟨k, clock, v⟩]
def del (k : List UInt8) (l : List (KE β)) : List (KE β) := l.eraseP fun x => decide (x.key = k)
structure Ok (clock : Nat) (l : List (KE β)) : Prop where
  keys : (l.map KE.key).Nodup
  borns : (l.map KE.born).Nodup
  lt : ∀ x ∈ l, x.born < clock
theorem get_isSome (k : List UInt8) (l : List (KE β)) : (get k l).isSome = (find k l).isSome := by unfold get; cases find k l <;> rfl
/-! ### What the calls keep -/
theorem put_len (k : List UInt8) (clock : Nat) (v : β) (l : List (KE β)) : (put k clock v l).length = if (get k l).isSome = true then l.length else l.length + 1 := by
  rw [get_isSome]
  unfold put
  split <;> simp
/-! ### A loop over all of them -/
end KE

end Go.Proofs.YtlbgjlmokpkkeaaGreatDoor.Ax
