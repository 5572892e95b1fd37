/- Maps whose keys are texts, over values without memory: entries in the order in which they came. No program is named here. -/
import Derived.Test.YtmdapcmdlblnnaaDoorQAxXr
/- The functions of package slices that find by a function, that compare lists, over values without memory. No program is named here. Written by gen/slices.py. -/
namespace Go.Proofs.YtmdapcmdlblnnaaDoor.Ax
open Go.RowKit Go By
set_option linter.unusedSimpArgs false
set_option maxRecDepth 10000

end Go.Proofs.YtmdapcmdlblnnaaDoor.Ax
/- Maps over values without memory whose entries are a list's image; variables that own nothing. No program is named here. -/
namespace Go.Proofs.YtmdapcmdlblnnaaDoor.Ax
open Go.RowKit Go By
set_option linter.unusedSimpArgs false
set_option linter.unusedVariables false
set_option maxRecDepth 10000

/-! ### Entries made out of a list -/
theorem found_map {α : Type} {f : α → AEnt} {p : α → Bool} {k : Value} {one c : Bool} {z : List AV} : ∀ {l : List α} (i : Nat), (∀ s ∈ l, keyEq k (f s).key = p s) →
    found one c z (AEnt.find k (l.map f) i) = (match l.find? p with
      | some s => if c = true then .tup [elA one (f s).cells, .v (.bool true)] else elA one (f s).cells
      | none => if c = true then .tup [elA one z, .v (.bool false)] else elA one z)
  | [], i, _ => rfl
  | s :: l, i, h => by
    rw [List.map_cons]
    unfold AEnt.find
    rw [h s (List.mem_cons_self ..), List.find?_cons]
    cases p s with
    | true => rfl
    | false => exact found_map (i + 1) fun x hx => h x (List.mem_cons_of_mem _ hx)
theorem keyEq_str (x y : List UInt8) : keyEq (.string (strB x)) (.string (strB y)) = (x == y) := by
  show (strB x == strB y) = (x == y)
  rw [Bool.eq_iff_iff]
  constructor
  · intro h
    have := bytes_beq h
    have := congrArg (fun b : ByteArray => b.data.toList) this
    simpa [strB_data] using this
  · intro h
    have e : x = y := by simpa using h
    subst e
    show (strB x).data == (strB x).data
    simp
end Go.Proofs.YtmdapcmdlblnnaaDoor.Ax
namespace Go.Proofs.YtmdapcmdlblnnaaDoor.Ax
open Go.RowKit Go By
set_option linter.unusedSimpArgs false
set_option linter.unusedVariables false
set_option maxRecDepth 10000

structure KE (β : Type) where
  key : List UInt8
  born : Nat
  val : β
namespace KE
variable {β : Type}
def ent (f : β → List AV) (x : KE β) : AEnt := ⟨.string (strB x.key), x.born, f x.val⟩
def find (k : List UInt8) (l : List (KE β)) : Option (KE β) := l.find? fun x => decide (x.key = k)
def get (k : List UInt8) (l : List (KE β)) : Option β := (find k l).map KE.val
def upd (k : List UInt8) (v : β) (x : KE β) : KE β := if x.key = k then { x with val := v } else x
def put (k : List UInt8) (clock : Nat) (v : β) (l : List (KE β)) : List (KE β) := if (find k l).isSome = true then l.map (upd k v) else l ++ [⟨k, clock, v⟩]
def del (k : List UInt8) (l : List (KE β)) : List (KE β) := l.eraseP fun x => decide (x.key = k)
theorem ents_of {f : β → List AV} {n : Nat} (hf : ∀ v, (f v).length = n) (clock : Nat) (l : List (KE β)) : mapOf n (mapC clock (l.map (ent f))) = some (clock, l.map (ent f)) := mapOf_mapC fun e he => by obtain ⟨s, _, rfl⟩ := List.mem_map.1 he; exact hf _
theorem ents_keys {f : β → List AV} (hf : ∀ v, ∀ c ∈ f v, c.idOf = none) (l : List (KE β)) : keysOk none (l.map (ent f)) := fun e he => by
  obtain ⟨s, _, rfl⟩ := List.mem_map.1 he
  exact ⟨rfl, hf _⟩
theorem ents_eq (f : β → List AV) (k : List UInt8) (l : List (KE β)) : ∀ s ∈ l, keyEq (.string (strB k)) (s.ent f).key = decide (s.key = k) := fun s _ => by
  show keyEq (.string (strB k)) (.string (strB s.key)) = _
  rw [keyEq_str, Bool.eq_iff_iff]
  simp
  exact eq_comm
theorem found_eq (f : β → List AV) (k : List UInt8) (l : List (KE β)) (one c : Bool) (z : List AV) : found one c z (AEnt.find (.string (strB k)) (l.map (ent f)) 0) = (match get k l with
    | some v => if c = true then .tup [elA one (f v), .v (.bool true)] else elA one (f v)
    | none => if c = true then .tup [elA one z, .v (.bool false)] else elA one z) := by
  rw [found_map 0 (ents_eq f k l)]
  unfold get find
  cases l.find? (fun x => decide (x.key = k)) <;> rfl
/-! ### What the calls keep -/
/-! ### A loop over all of them -/
end KE

end Go.Proofs.YtmdapcmdlblnnaaDoor.Ax
