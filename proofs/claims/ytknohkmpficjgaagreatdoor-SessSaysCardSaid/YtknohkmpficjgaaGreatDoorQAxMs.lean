import Derived.Test.YtknohkmpficjgaaGreatDoorQAxIb
set_option linter.unusedSimpArgs false
set_option linter.unusedVariables false
open List renaming map_cons -> Q7, mem_map -> Q8, mem_cons_of_mem -> Q9, mem_cons -> Ra, mem_cons_self -> Rb, mem_singleton -> Rc, mem_append -> Re, nodup_cons -> Rf, nodup_append -> Rh, map_append -> Ri, eraseP_sublist -> Rj, find?_cons -> Rk, map_map -> Rm
open Option renaming isSome_some -> Rg
open Bool renaming eq_iff_iff -> Rl
namespace Go.Proofs.YtknohkmpficjgaaGreatDoor.Ax
open Go.RowKit Go By
set_option maxRecDepth 10000
theorem qC {α : Type} {f : α -> AEnt} {p : α -> Bool} {k : Value} {one c : Bool} {z : List AV} : ∀ {l : List α} (i : Nat), (∀ s ∈ l, dh k (f s).key = p s) ->
  found one c z (AEnt.find k (l.map f) i) = (match l.find? p with
   | some s => if c = true then .tup [lF one (f s).cells, .v (.bool true)] else lF one (f s).cells
   | none => if c = true then .tup [lF one z, .v (.bool false)] else lF one z)
 | [], i, _ => rfl
 | s :: l, i, h => by
  rw [Q7]
  unfold AEnt.find
  rw [h s (Rb ..), Rk]
  cases p s with
  | true => rfl
  | false => exact qC (i + 1) fun x hx => h x (Q9 _ hx)
theorem jz {α : Type} {f : α -> AEnt} {p : α -> Bool} {k : Value} : ∀ {l : List α} (i : Nat), (∀ s ∈ l, dh k (f s).key = p s) -> l.find? p = none -> AEnt.find k (l.map f) i = none
 | [], i, _, _ => rfl
 | s :: l, i, h, hn => by
  rw [Q7]
  unfold AEnt.find
  rw [h s (Rb ..)]
  rw [Rk] at hn
  cases hp : p s with
  | true => rw [hp] at hn; cases hn
  | false => rw [hp] at hn; exact jz (i + 1) (fun x hx => h x (Q9 _ hx)) hn
theorem ud {α : Type} {f : α -> AEnt} {p : α -> Bool} {k : Value} {l : List α} (clock : Nat) (cells : List AV) (h : ∀ s ∈ l, dh k (f s).key = p s) (hn : l.find? p = none) : AEnt.put k clock cells (l.map f) = (l.map f ++ [⟨k, clock, cells⟩], clock + 1) := by
 unfold AEnt.put
 rw [jz 0 h hn]
theorem my {α : Type} {f : α -> AEnt} {p : α -> Bool} {k : Value} : ∀ {l : List α} (i : Nat), (∀ s ∈ l, dh k (f s).key = p s) -> ∀ {j : Nat} {e : AEnt}, AEnt.find k (l.map f) i = some (j, e) -> i <= j /\ (l.map f).eraseIdx (j - i) = (l.eraseP p).map f
 | [], i, _, j, e, hj => by cases hj
 | s :: l, i, h, j, e, hj => by
  rw [Q7] at hj
  unfold AEnt.find at hj
  rw [h s (Rb ..)] at hj
  cases hp : p s with
  | true =>
   rw [hp] at hj
   injection hj with hj
   injection hj with h1 h2
   subst h1
   simp [hp]
  | false =>
   rw [hp] at hj
   obtain ⟨h1, h2⟩ := my (i + 1) (fun x hx => h x (Q9 _ hx)) hj
   refine ⟨by omega, ?_⟩
   rw [show j - i = (j - (i + 1)) + 1 by omega]
   simp [hp, h2]
theorem Dc {α : Type} {f : α -> AEnt} {p : α -> Bool} {k : Value} {l : List α} (h : ∀ s ∈ l, dh k (f s).key = p s) : AEnt.del k (l.map f) = (l.eraseP p).map f := by
 unfold AEnt.del
 cases hj : AEnt.find k (l.map f) 0 with
 | some q =>
  obtain ⟨j, e⟩ := q
  exact (my 0 h hj).2
 | none =>
  have : ∀ s ∈ l, ¬ p s = true := fun s hs hp => by
   have key : ∀ {l : List α} (i : Nat), (∀ s ∈ l, dh k (f s).key = p s) -> AEnt.find k (l.map f) i = none -> ∀ s ∈ l, ¬ p s = true := by
    intro l
    induction l with
    | nil => intro i _ _ s hs; cases hs
    | cons x l ih =>
     intro i hh hn s hs
     rw [Q7] at hn
     unfold AEnt.find at hn
     rw [hh x (Rb ..)] at hn
     cases hx : p x with
     | true => rw [hx] at hn; cases hn
     | false =>
      rw [hx] at hn
      rcases Ra.1 hs with rfl | hs
      ·simp [hx]
      ·exact ih (i + 1) (fun y hy => hh y (Q9 _ hy)) hn s hs
   exact key 0 h hj s hs hp
  rw [List.eraseP_of_forall_not this]
theorem yX (x y : List UInt8) : dh (.string (ah x)) (.string (ah y)) = (x == y) := by
 show (ah x == ah y) = (x == y)
 rw [Rl]
 constructor
 ·intro h
  have := bytes_beq h
  have := congrArg (fun b : ByteArray => b.data.toList) this
  simpa [jl] using this
 ·intro h
  have e : x = y := by simpa using h
  subst e
  show (ah x).data == (ah x).data
  simp
def bZ (h : List (List AV)) : Prop := ∀ cs ∈ h, ∀ c ∈ cs, c.idOf = none
theorem bz {h : List (List AV)} (hp : bZ h) {cs : List AV} (hc : ∀ c ∈ cs, c.idOf = none) (k : Nat) : bZ (h.set k cs) := fun x hx => by
 rcases List.mem_or_eq_of_mem_set hx with h1 | h1
 ·exact hp x h1
 ·subst h1; exact hc
theorem cG {h g : List (List AV)} (hp : bZ h) (hg : bZ g) : bZ (h ++ g) := fun x hx => by
 rcases Re.1 hx with h1 | h1
 ·exact hp x h1
 ·exact hg x h1
theorem fJ {α β : Type} {f : α -> β} : ∀ {l : List α}, (l.map f).Nodup -> ∀ {x y : α}, x ∈ l -> y ∈ l -> f x = f y -> x = y
 | a :: l, h, x, y, hx, hy, e => by
  rw [Q7, Rf] at h
  rcases Ra.1 hx with h1 | h1 <;> rcases Ra.1 hy with h2 | h2
  ·rw [h1, h2]
  ·exact (h.1 (Q8.2 ⟨y, h2, by rw [<- h1]; exact e.symm⟩)).elim
  ·exact (h.1 (Q8.2 ⟨x, h1, by rw [<- h2]; exact e⟩)).elim
  ·exact fJ h.2 h1 h2 e
theorem jD {α β : Type} [DecidableEq β] {f : α -> β} {b : β} : ∀ {l : List α}, (l.map f).Nodup -> ∀ {x : α}, x ∈ l.eraseP (fun y => decide (f y = b)) -> x ∈ l /\ f x ≠ b
 | [], _, x, hx => by simp at hx
 | a :: l, h, x, hx => by
  rw [Q7, Rf] at h
  rw [List.eraseP_cons] at hx
  by_cases e : f a = b
  ·simp [e] at hx
   exact ⟨Q9 _ hx, fun e2 => h.1 (Q8.2 ⟨x, hx, e2.trans e.symm⟩)⟩
  ·simp [e] at hx
   rcases hx with rfl | hx
   ·exact ⟨Rb .., e⟩
   ·obtain ⟨h1, h2⟩ := jD h.2 hx
    exact ⟨Q9 _ h1, h2⟩
structure KE (β : Type) where
 key : List UInt8
 born : Nat
 val : β
namespace KE
variable {β : Type}
def ent (f : β -> List AV) (x : KE β) : AEnt := ⟨.string (ah x.key), x.born, f x.val⟩
def find (k : List UInt8) (l : List (KE β)) : Option (KE β) := l.find? fun x => decide (x.key = k)
def get (k : List UInt8) (l : List (KE β)) : Option β := (find k l).map KE.val
def upd (k : List UInt8) (v : β) (x : KE β) : KE β := if x.key = k then { x with val := v } else x
def put (k : List UInt8) (clock : Nat) (v : β) (l : List (KE β)) : List (KE β) := if (find k l).isSome = true then l.map (upd k v) else l ++ [⟨k, clock, v⟩]
def tick (k : List UInt8) (clock : Nat) (l : List (KE β)) : Nat := if (find k l).isSome = true then clock else clock + 1
def del (k : List UInt8) (l : List (KE β)) : List (KE β) := l.eraseP fun x => decide (x.key = k)
structure Ok (clock : Nat) (l : List (KE β)) : Prop where
 keys : (l.map KE.key).Nodup
 borns : (l.map KE.born).Nodup
 lt : ∀ x ∈ l, x.born < clock
theorem nl (k : List UInt8) (v : β) (x : KE β) : (upd k v x).key = x.key := by unfold upd; split <;> rfl
theorem uN (k : List UInt8) (v : β) (x : KE β) : (upd k v x).born = x.born := by unfold upd; split <;> rfl
theorem find_mem {k : List UInt8} {l : List (KE β)} {x : KE β} (h : find k l = some x) : x ∈ l /\ x.key = k := ⟨List.mem_of_find?_eq_some h, by simpa using List.find?_some h⟩
theorem find_none {k : List UInt8} {l : List (KE β)} (h : find k l = none) : ∀ x ∈ l, x.key ≠ k := fun x hx => by
 have := List.find?_eq_none.1 h x hx
 simpa using this
theorem find_of {clock : Nat} {l : List (KE β)} (ho : Ok clock l) {x : KE β} (hx : x ∈ l) : find x.key l = some x := by
 cases hf : find x.key l with
 | none => exact absurd rfl (find_none hf x hx)
 | some y =>
  obtain ⟨h1, h2⟩ := find_mem hf
  rw [fJ ho.keys h1 hx h2]
theorem vF (k : List UInt8) (l : List (KE β)) : (get k l).isSome = (find k l).isSome := by unfold get; cases find k l <;> rfl
theorem ents_of {f : β -> List AV} {n : Nat} (hf : ∀ v, (f v).length = n) (clock : Nat) (l : List (KE β)) : mapOf n (aJ clock (l.map (ent f))) = some (clock, l.map (ent f)) := vR fun e he => by obtain ⟨s, _, rfl⟩ := Q8.1 he; exact hf _
theorem ents_keys {f : β -> List AV} (hf : ∀ v, ∀ c ∈ f v, c.idOf = none) (l : List (KE β)) : fa none (l.map (ent f)) := fun e he => by
 obtain ⟨s, _, rfl⟩ := Q8.1 he
 exact ⟨rfl, hf _⟩
theorem ents_plain {f : β -> List AV} (hf : ∀ v, ∀ c ∈ f v, c.idOf = none) (clock : Nat) (l : List (KE β)) : ∀ c ∈ aJ clock (l.map (ent f)), c.idOf = none := kW fun e he c hc => (ents_keys hf l e he).2 c hc
theorem kO (f : β -> List AV) (k : List UInt8) (l : List (KE β)) : ∀ s ∈ l, dh (.string (ah k)) (s.ent f).key = decide (s.key = k) := fun s _ => by
 show dh (.string (ah k)) (.string (ah s.key)) = _
 rw [yX, Rl]
 simp
 exact eq_comm
theorem del_eq (f : β -> List AV) (k : List UInt8) (l : List (KE β)) : AEnt.del (.string (ah k)) (l.map (ent f)) = (del k l).map (ent f) := Dc (kO f k l)
theorem rm {k : List UInt8} {v : β} : ∀ {l : List (KE β)}, (∀ x ∈ l, x.key ≠ k) -> l.map (upd k v) = l
 | [], _ => rfl
 | a :: l, h => by
  have h1 : upd k v a = a := by unfold upd; rw [if_neg (h a (Rb ..))]
  rw [Q7, h1, rm fun x hx => h x (Q9 _ hx)]
theorem wt {f : β -> List AV} {k : List UInt8} {v : β} : ∀ {l : List (KE β)} (i : Nat), (l.map KE.key).Nodup -> ∀ {j : Nat} {e : AEnt}, AEnt.find (.string (ah k)) (l.map (ent f)) i = some (j, e) -> i <= j /\ (l.map (ent f)).set (j - i) ⟨.string (ah k), e.born, f v⟩ = (l.map (upd k v)).map (ent f)
 | [], i, _, j, e, h => by cases h
 | s :: l, i, hn, j, e, h => by
  rw [Q7, Rf] at hn
  rw [Q7] at h
  unfold AEnt.find at h
  rw [kO f k [s] s (Rc.2 rfl)] at h
  by_cases hk : s.key = k
  ·rw [if_pos (by simpa using hk)] at h
   injection h with h
   injection h with h1 h2
   subst h1 h2
   refine ⟨Nat.le_refl _, ?_⟩
   rw [Nat.sub_self, Q7, Q7, rm (k := k) (l := l) fun x hx e => hn.1 (Q8.2 ⟨x, hx, e.trans hk.symm⟩)]
   have : upd k v s = { s with val := v } := by unfold upd; rw [if_pos hk]
   rw [this, List.set_cons_zero, Q7]
   subst hk
   rfl
  ·rw [if_neg (by simpa using hk)] at h
   obtain ⟨h1, h2⟩ := wt (i + 1) hn.2 h
   refine ⟨by omega, ?_⟩
   have : upd k v s = s := by unfold upd; rw [if_neg hk]
   rw [show j - i = (j - (i + 1)) + 1 by omega, Q7, Q7, this, List.set_cons_succ, h2, Q7]
theorem put_eq (f : β -> List AV) {clock : Nat} {l : List (KE β)} (ho : Ok clock l) (k : List UInt8) (v : β) : AEnt.put (.string (ah k)) clock (f v) (l.map (ent f)) = ((put k clock v l).map (ent f), tick k clock l) := by
 unfold put tick
 cases hf : find k l with
 | none =>
  rw [if_neg (by simp), if_neg (by simp)]
  rw [ud clock (f v) (kO f k l) hf, Ri]
  rfl
 | some s =>
  simp only [Rg, if_true]
  unfold AEnt.put
  cases hj : AEnt.find (.string (ah k)) (l.map (ent f)) 0 with
  | none =>
   exfalso
   have hs := find_mem hf
   have key : ∀ {l : List (KE β)} (i : Nat), AEnt.find (.string (ah k)) (l.map (ent f)) i = none -> ∀ x ∈ l, x.key ≠ k := by
    intro l
    induction l with
    | nil => intro i _ x hx; cases hx
    | cons a l ih =>
     intro i h x hx
     rw [Q7] at h
     unfold AEnt.find at h
     rw [kO f k [a] a (Rc.2 rfl)] at h
     by_cases hk : a.key = k
     ·rw [if_pos (by simpa using hk)] at h; cases h
     ·rw [if_neg (by simpa using hk)] at h
      rcases Ra.1 hx with rfl | hx
      ·exact hk
      ·exact ih (i + 1) h x hx
   exact key 0 hj s hs.1 hs.2
  | some q =>
   obtain ⟨j, e⟩ := q
   dsimp only
   have := (wt (v := v) 0 ho.keys hj).2
   rw [Nat.sub_zero] at this
   rw [this]
theorem found_eq (f : β -> List AV) (k : List UInt8) (l : List (KE β)) (one c : Bool) (z : List AV) : found one c z (AEnt.find (.string (ah k)) (l.map (ent f)) 0) = (match get k l with
  | some v => if c = true then .tup [lF one (f v), .v (.bool true)] else lF one (f v)
  | none => if c = true then .tup [lF one z, .v (.bool false)] else lF one z) := by
 rw [qC 0 (kO f k l)]
 unfold get find
 cases l.find? (fun x => decide (x.key = k)) <;> rfl
theorem at_born {f : β -> List AV} : ∀ {l : List (KE β)}, (l.map KE.born).Nodup -> ∀ {s : KE β}, s ∈ l -> AEnt.at_ s.born (l.map (ent f)) = some (s.ent f)
 | x :: l, hn, s, hs => by
  rw [Q7, Rf] at hn
  rw [Q7]
  unfold AEnt.at_
  by_cases e : x.born = s.born
  ·have hx : x = s := by
    rcases Ra.1 hs with h | h
    ·exact h.symm
    ·exact absurd (Q8.2 ⟨s, h, e.symm⟩) hn.1
   subst hx
   rw [if_pos (show (x.ent f).born = x.born from rfl)]
  ·have hs2 : s ∈ l := by
    rcases Ra.1 hs with h | h
    ·exact absurd (by rw [h]) e
    ·exact h
   rw [if_neg (show ¬ (x.ent f).born = s.born from e)]
   exact at_born hn.2 hs2
theorem put_ok {clock : Nat} {l : List (KE β)} (ho : Ok clock l) (k : List UInt8) (v : β) : Ok (tick k clock l) (put k clock v l) := by
 unfold put tick
 cases hf : find k l with
 | some s =>
  simp only [Rg, if_true]
  refine ⟨?_, ?_, fun x hx => ?_⟩
  ·rw [Rm, show KE.key ∘ upd k v = KE.key from funext (nl k v)]; exact ho.keys
  ·rw [Rm, show KE.born ∘ upd k v = KE.born from funext (uN k v)]; exact ho.borns
  ·obtain ⟨y, hy, rfl⟩ := Q8.1 hx
   rw [uN]; exact ho.lt y hy
 | none =>
  rw [if_neg (by simp), if_neg (by simp)]
  refine ⟨?_, ?_, fun x hx => ?_⟩
  ·rw [Ri, Rh]
   refine ⟨ho.keys, by simp, fun a ha b hb e => ?_⟩
   obtain ⟨x, hx, rfl⟩ := Q8.1 ha
   simp at hb
   subst hb
   exact find_none hf x hx e
  ·rw [Ri, Rh]
   refine ⟨ho.borns, by simp, fun a ha b hb e => ?_⟩
   obtain ⟨x, hx, rfl⟩ := Q8.1 ha
   simp at hb
   have := ho.lt x hx
   omega
  ·rcases Re.1 hx with hx | hx
   ·have := ho.lt x hx; omega
   ·rw [Rc.1 hx]; exact Nat.lt_succ_self _
theorem del_ok {clock : Nat} {l : List (KE β)} (ho : Ok clock l) (k : List UInt8) : Ok clock (del k l) := by
 have hs : (del k l).Sublist l := Rj ..
 exact ⟨ho.keys.sublist (hs.map _), ho.borns.sublist (hs.map _), fun x hx => ho.lt x (hs.subset hx)⟩
theorem mem_del {clock : Nat} {l : List (KE β)} (ho : Ok clock l) {k : List UInt8} {x : KE β} : x ∈ del k l ↔ x ∈ l /\ x.key ≠ k := by
 constructor
 ·exact fun h => jD ho.keys h
 ·intro ⟨h1, h2⟩
  exact (List.mem_eraseP_of_neg (by simpa using h2)).2 h1
theorem get_iff {clock : Nat} {l : List (KE β)} (ho : Ok clock l) {k : List UInt8} {v : β} : get k l = some v ↔ ∃ x ∈ l, x.key = k /\ x.val = v := by
 unfold get
 constructor
 ·intro h
  cases hf : find k l with
  | none => rw [hf] at h; cases h
  | some x =>
   rw [hf] at h
   injection h with h
   exact ⟨x, (find_mem hf).1, (find_mem hf).2, h⟩
 ·rintro ⟨x, hx, rfl, rfl⟩
  rw [find_of ho hx]; rfl
theorem get_none_iff {l : List (KE β)} {k : List UInt8} : get k l = none ↔ ∀ x ∈ l, x.key ≠ k := by
 unfold get
 constructor
 ·intro h
  cases hf : find k l with
  | none => exact find_none hf
  | some x => rw [hf] at h; cases h
 ·intro h
  cases hf : find k l with
  | none => rfl
  | some x => exact absurd (find_mem hf).2 (h x (find_mem hf).1)
theorem DH {α : Type} {a b : Option α} (h : ∀ v, a = some v ↔ b = some v) : a = b := by
 cases a with
 | some x => exact ((h x).1 rfl).symm
 | none =>
  cases b with
  | some x => exact (h x).2 rfl
  | none => rfl
theorem get_put {clock : Nat} {l : List (KE β)} (ho : Ok clock l) (k : List UInt8) (v : β) (k' : List UInt8) : get k' (put k clock v l) = if k' = k then some v else get k' l := by
 refine DH fun u => ?_
 rw [get_iff (put_ok ho k v)]
 unfold put
 cases hf : find k l with
 | some s =>
  obtain ⟨h1, h2⟩ := find_mem hf
  simp only [Rg, if_true]
  constructor
  ·rintro ⟨x, hx, rfl, rfl⟩
   obtain ⟨y, hy, rfl⟩ := Q8.1 hx
   rw [nl]
   by_cases e : y.key = k
   ·rw [if_pos e]; unfold upd; rw [if_pos e]
   ·rw [if_neg e]; unfold upd; rw [if_neg e]; exact (get_iff ho).2 ⟨y, hy, rfl, rfl⟩
  ·intro h
   by_cases e : k' = k
   ·rw [if_pos e] at h
    injection h with h
    refine ⟨upd k v s, Q8.2 ⟨s, h1, rfl⟩, by rw [nl, h2, e], ?_⟩
    unfold upd; rw [if_pos h2]; exact h
   ·rw [if_neg e] at h
    obtain ⟨x, hx, h3, h4⟩ := (get_iff ho).1 h
    have hne : ¬ x.key = k := fun e2 => e (h3.symm.trans e2)
    exact ⟨upd k v x, Q8.2 ⟨x, hx, rfl⟩, by rw [nl, h3], by unfold upd; rw [if_neg hne]; exact h4⟩
 | none =>
  rw [if_neg (by simp)]
  constructor
  ·rintro ⟨x, hx, rfl, rfl⟩
   rcases Re.1 hx with hx | hx
   ·rw [if_neg (find_none hf x hx)]; exact (get_iff ho).2 ⟨x, hx, rfl, rfl⟩
   ·rw [Rc.1 hx]; simp
  ·intro h
   by_cases e : k' = k
   ·rw [if_pos e] at h
    injection h with h
    exact ⟨⟨k, clock, v⟩, by simp, e.symm, h⟩
   ·rw [if_neg e] at h
    obtain ⟨x, hx, h3, h4⟩ := (get_iff ho).1 h
    exact ⟨x, List.mem_append_left _ hx, h3, h4⟩
theorem put_len (k : List UInt8) (clock : Nat) (v : β) (l : List (KE β)) : (put k clock v l).length = if (get k l).isSome = true then l.length else l.length + 1 := by
 rw [vF]
 unfold put
 split <;> simp
theorem del_len (k : List UInt8) (l : List (KE β)) : (del k l).length <= l.length := (Rj ..).length_le
structure Seen (l s : List (KE β)) : Prop where
 nodup : s.Nodup
 sub : ∀ x ∈ s, x ∈ l
theorem Seen.le {l s : List (KE β)} (h : Seen l s) : s.length <= l.length := h.nodup.length_le_of_subset fun x hx => h.sub x hx
theorem Seen.snoc {l s : List (KE β)} (h : Seen l s) {x : KE β} (hx : x ∈ l) (hn : x ∉ s) : Seen l (s ++ [x]) := by
 refine ⟨?_, fun y hy => ?_⟩
 ·rw [Rh]
  exact ⟨h.nodup, by simp, fun a ha b hb e => hn (by rw [<- Rc.1 hb, <- e]; exact ha)⟩
 ·rcases Re.1 hy with hy | hy
  ·exact h.sub y hy
  ·rw [Rc.1 hy]; exact hx
theorem Seen.perm {clock : Nat} {l s : List (KE β)} (h : Seen l s) (ho : Ok clock l) (hall : ∀ x ∈ l, ∃ y ∈ s, y.born = x.born) : s.Perm l := by
 have hl : l.Nodup := by
  have := ho.borns
  unfold List.Nodup at this ⊢
  rw [List.pairwise_map] at this
  exact this.imp fun h e => h (by rw [e])
 refine (List.perm_ext_iff_of_nodup h.nodup hl).2 fun x => ⟨fun hx => h.sub x hx, fun hx => ?_⟩
 obtain ⟨y, hy, e⟩ := hall x hx
 rw [<- fJ ho.borns (h.sub y hy) hx e]; exact hy
end KE
theorem oa {l : List AEnt} {n t : Nat} (h : ∀ e ∈ l, cg n e.cells) : cg n (aJ t l) := by
 refine cE fun j c hj => ?_
 have hc := List.mem_of_getElem? hj
 unfold aJ at hc
 rcases Ra.1 hc with rfl | hc
 ·trivial
 rcases Ra.1 hc with rfl | hc
 ·trivial
 obtain ⟨e, he, hc⟩ := List.mem_flatMap.1 hc
 unfold AEnt.avs at hc
 rcases Ra.1 hc with rfl | hc
 ·trivial
 rcases Ra.1 hc with rfl | hc
 ·trivial
 obtain ⟨q, hq⟩ := List.getElem?_of_mem hc
 exact cd (h e he) q c hq
end Go.Proofs.YtknohkmpficjgaaGreatDoor.Ax
