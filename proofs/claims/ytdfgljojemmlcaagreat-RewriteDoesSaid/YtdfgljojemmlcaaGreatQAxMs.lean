import Derived.Test.YtdfgljojemmlcaaGreatQAxIb
set_option linter.unusedSimpArgs false
set_option linter.unusedVariables false
open List renaming map_cons -> Q0, mem_map -> Q1, mem_cons_of_mem -> Q2, mem_cons_self -> Q3, mem_singleton -> Q4, mem_append -> Q7, nodup_cons -> Q8, map_append -> Q9, mem_cons -> Ra, nodup_append -> Rb, find?_cons -> Rc, map_map -> Rd
open Option renaming isSome_some -> Q5
open Bool renaming eq_iff_iff -> Q6
namespace Go.Proofs.YtdfgljojemmlcaaGreat.Ax
open Go.RowKit Go By
set_option maxRecDepth 10000
theorem jQ {α : Type} {f : α -> AEnt} {p : α -> Bool} {k : Value} {one c : Bool} {z : List AV} : ∀ {l : List α} (i : Nat), (∀ s ∈ l, dS k (f s).key = p s) ->
  found one c z (AEnt.find k (l.map f) i) = (match l.find? p with
   | some s => if c = true then .tup [rB one (f s).cells, .v (.bool true)] else rB one (f s).cells
   | none => if c = true then .tup [rB one z, .v (.bool false)] else rB one z)
 | [], i, _ => rfl
 | s :: l, i, h => by
  rw [Q0]
  unfold AEnt.find
  rw [h s (Q3 ..), Rc]
  cases p s with
  | true => rfl
  | false => exact jQ (i + 1) fun x hx => h x (Q2 _ hx)
theorem kK {α : Type} {f : α -> AEnt} {p : α -> Bool} {k : Value} : ∀ {l : List α} (i : Nat), (∀ s ∈ l, dS k (f s).key = p s) -> l.find? p = none -> AEnt.find k (l.map f) i = none
 | [], i, _, _ => rfl
 | s :: l, i, h, hn => by
  rw [Q0]
  unfold AEnt.find
  rw [h s (Q3 ..)]
  rw [Rc] at hn
  cases hp : p s with
  | true => rw [hp] at hn; cases hn
  | false => rw [hp] at hn; exact kK (i + 1) (fun x hx => h x (Q2 _ hx)) hn
theorem jt {α : Type} {f : α -> AEnt} {p : α -> Bool} {k : Value} {l : List α} (clock : Nat) (cells : List AV) (h : ∀ s ∈ l, dS k (f s).key = p s) (hn : l.find? p = none) : AEnt.put k clock cells (l.map f) = (l.map f ++ [⟨k, clock, cells⟩], clock + 1) := by
 unfold AEnt.put
 rw [kK 0 h hn]
theorem rj (x y : List UInt8) : dS (.string (ah x)) (.string (ah y)) = (x == y) := by
 show (ah x == ah y) = (x == y)
 rw [Q6]
 constructor
 ·intro h
  have := bytes_beq h
  have := congrArg (fun b : ByteArray => b.data.toList) this
  simpa [mD] using this
 ·intro h
  have e : x = y := by simpa using h
  subst e
  show (ah x).data == (ah x).data
  simp
theorem xK (a b : Int) : dS (.int .i64 a) (.int .i64 b) = decide (b = a) := by
 show (IntKind.i64 == IntKind.i64 && a == b) = _
 rw [Q6]
 simp
 exact eq_comm
def aQ (h : List (List AV)) : Prop := ∀ cs ∈ h, ∀ c ∈ cs, c.idOf = none
theorem aP {h : List (List AV)} (hp : aQ h) {cs : List AV} (hc : ∀ c ∈ cs, c.idOf = none) (k : Nat) : aQ (h.set k cs) := fun x hx => by
 rcases List.mem_or_eq_of_mem_set hx with h1 | h1
 ·exact hp x h1
 ·subst h1; exact hc
theorem aA {h g : List (List AV)} (hp : aQ h) (hg : aQ g) : aQ (h ++ g) := fun x hx => by
 rcases Q7.1 hx with h1 | h1
 ·exact hp x h1
 ·exact hg x h1
theorem cO {α β : Type} {f : α -> β} : ∀ {l : List α}, (l.map f).Nodup -> ∀ {x y : α}, x ∈ l -> y ∈ l -> f x = f y -> x = y
 | a :: l, h, x, y, hx, hy, e => by
  rw [Q0, Q8] at h
  rcases Ra.1 hx with h1 | h1 <;> rcases Ra.1 hy with h2 | h2
  ·rw [h1, h2]
  ·exact (h.1 (Q1.2 ⟨y, h2, by rw [<- h1]; exact e.symm⟩)).elim
  ·exact (h.1 (Q1.2 ⟨x, h1, by rw [<- h2]; exact e⟩)).elim
  ·exact cO h.2 h1 h2 e
theorem gK {α β : Type} [DecidableEq β] {f : α -> β} {b : β} : ∀ {l : List α}, (l.map f).Nodup -> ∀ {x : α}, x ∈ l.eraseP (fun y => decide (f y = b)) -> x ∈ l /\ f x ≠ b
 | [], _, x, hx => by simp at hx
 | a :: l, h, x, hx => by
  rw [Q0, Q8] at h
  rw [List.eraseP_cons] at hx
  by_cases e : f a = b
  ·simp [e] at hx
   exact ⟨Q2 _ hx, fun e2 => h.1 (Q1.2 ⟨x, hx, e2.trans e.symm⟩)⟩
  ·simp [e] at hx
   rcases hx with rfl | hx
   ·exact ⟨Q3 .., e⟩
   ·obtain ⟨h1, h2⟩ := gK h.2 hx
    exact ⟨Q2 _ h1, h2⟩
structure KE (β : Type) where
 key : List UInt8
 born : Nat
 val : β
namespace KE
variable {β : Type}
def ent (f : β -> List AV) (x : KE β) : AEnt := ⟨.string (ah x.key), x.born, f x.val⟩
def find (k : List UInt8) (l : List (KE β)) : Option (KE β) := l.find? fun x => decide (x.key = k)
def get (k : List UInt8) (l : List (KE β)) : Option β := (find k l).map KE.val
def upd (k : List UInt8) (v : β) (x : KE β) : KE β := if x.key = k then { x with val := v } else x
def put (k : List UInt8) (clock : Nat) (v : β) (l : List (KE β)) : List (KE β) := if (find k l).isSome = true then l.map (upd k v) else l ++ [⟨k, clock, v⟩]
def tick (k : List UInt8) (clock : Nat) (l : List (KE β)) : Nat := if (find k l).isSome = true then clock else clock + 1
def del (k : List UInt8) (l : List (KE β)) : List (KE β) := l.eraseP fun x => decide (x.key = k)
structure Ok (clock : Nat) (l : List (KE β)) : Prop where
 keys : (l.map KE.key).Nodup
 borns : (l.map KE.born).Nodup
 lt : ∀ x ∈ l, x.born < clock
theorem oc (k : List UInt8) (v : β) (x : KE β) : (upd k v x).key = x.key := by unfold upd; split <;> rfl
theorem tg (k : List UInt8) (v : β) (x : KE β) : (upd k v x).born = x.born := by unfold upd; split <;> rfl
theorem bh {k : List UInt8} {l : List (KE β)} {x : KE β} (h : find k l = some x) : x ∈ l /\ x.key = k := ⟨List.mem_of_find?_eq_some h, by simpa using List.find?_some h⟩
theorem nj {k : List UInt8} {l : List (KE β)} (h : find k l = none) : ∀ x ∈ l, x.key ≠ k := fun x hx => by
 have := List.find?_eq_none.1 h x hx
 simpa using this
theorem C3 {clock : Nat} {l : List (KE β)} (ho : Ok clock l) {x : KE β} (hx : x ∈ l) : find x.key l = some x := by
 cases hf : find x.key l with
 | none => exact absurd rfl (nj hf x hx)
 | some y =>
  obtain ⟨h1, h2⟩ := bh hf
  rw [cO ho.keys h1 hx h2]
theorem uW (k : List UInt8) (l : List (KE β)) : (get k l).isSome = (find k l).isSome := by unfold get; cases find k l <;> rfl
theorem ents_of {f : β -> List AV} {n : Nat} (hf : ∀ v, (f v).length = n) (clock : Nat) (l : List (KE β)) : mapOf n (bU clock (l.map (ent f))) = some (clock, l.map (ent f)) := lv fun e he => by obtain ⟨s, _, rfl⟩ := Q1.1 he; exact hf _
theorem ents_keys {f : β -> List AV} (hf : ∀ v, ∀ c ∈ f v, c.idOf = none) (l : List (KE β)) : gQ none (l.map (ent f)) := fun e he => by
 obtain ⟨s, _, rfl⟩ := Q1.1 he
 exact ⟨rfl, hf _⟩
theorem pj {f : β -> List AV} (hf : ∀ v, ∀ c ∈ f v, c.idOf = none) (clock : Nat) (l : List (KE β)) : ∀ c ∈ bU clock (l.map (ent f)), c.idOf = none := jS fun e he c hc => (ents_keys hf l e he).2 c hc
theorem iG (f : β -> List AV) (k : List UInt8) (l : List (KE β)) : ∀ s ∈ l, dS (.string (ah k)) (s.ent f).key = decide (s.key = k) := fun s _ => by
 show dS (.string (ah k)) (.string (ah s.key)) = _
 rw [rj, Q6]
 simp
 exact eq_comm
theorem rZ {k : List UInt8} {v : β} : ∀ {l : List (KE β)}, (∀ x ∈ l, x.key ≠ k) -> l.map (upd k v) = l
 | [], _ => rfl
 | a :: l, h => by
  have h1 : upd k v a = a := by unfold upd; rw [if_neg (h a (Q3 ..))]
  rw [Q0, h1, rZ fun x hx => h x (Q2 _ hx)]
theorem vD {f : β -> List AV} {k : List UInt8} {v : β} : ∀ {l : List (KE β)} (i : Nat), (l.map KE.key).Nodup -> ∀ {j : Nat} {e : AEnt}, AEnt.find (.string (ah k)) (l.map (ent f)) i = some (j, e) -> i <= j /\ (l.map (ent f)).set (j - i) ⟨.string (ah k), e.born, f v⟩ = (l.map (upd k v)).map (ent f)
 | [], i, _, j, e, h => by cases h
 | s :: l, i, hn, j, e, h => by
  rw [Q0, Q8] at hn
  rw [Q0] at h
  unfold AEnt.find at h
  rw [iG f k [s] s (Q4.2 rfl)] at h
  by_cases hk : s.key = k
  ·rw [if_pos (by simpa using hk)] at h
   injection h with h
   injection h with h1 h2
   subst h1 h2
   refine ⟨Nat.le_refl _, ?_⟩
   rw [Nat.sub_self, Q0, Q0, rZ (k := k) (l := l) fun x hx e => hn.1 (Q1.2 ⟨x, hx, e.trans hk.symm⟩)]
   have : upd k v s = { s with val := v } := by unfold upd; rw [if_pos hk]
   rw [this, List.set_cons_zero, Q0]
   subst hk
   rfl
  ·rw [if_neg (by simpa using hk)] at h
   obtain ⟨h1, h2⟩ := vD (i + 1) hn.2 h
   refine ⟨by omega, ?_⟩
   have : upd k v s = s := by unfold upd; rw [if_neg hk]
   rw [show j - i = (j - (i + 1)) + 1 by omega, Q0, Q0, this, List.set_cons_succ, h2, Q0]
theorem put_eq (f : β -> List AV) {clock : Nat} {l : List (KE β)} (ho : Ok clock l) (k : List UInt8) (v : β) : AEnt.put (.string (ah k)) clock (f v) (l.map (ent f)) = ((put k clock v l).map (ent f), tick k clock l) := by
 unfold put tick
 cases hf : find k l with
 | none =>
  rw [if_neg (by simp), if_neg (by simp)]
  rw [jt clock (f v) (iG f k l) hf, Q9]
  rfl
 | some s =>
  simp only [Q5, if_true]
  unfold AEnt.put
  cases hj : AEnt.find (.string (ah k)) (l.map (ent f)) 0 with
  | none =>
   exfalso
   have hs := bh hf
   have key : ∀ {l : List (KE β)} (i : Nat), AEnt.find (.string (ah k)) (l.map (ent f)) i = none -> ∀ x ∈ l, x.key ≠ k := by
    intro l
    induction l with
    | nil => intro i _ x hx; cases hx
    | cons a l ih =>
     intro i h x hx
     rw [Q0] at h
     unfold AEnt.find at h
     rw [iG f k [a] a (Q4.2 rfl)] at h
     by_cases hk : a.key = k
     ·rw [if_pos (by simpa using hk)] at h; cases h
     ·rw [if_neg (by simpa using hk)] at h
      rcases Ra.1 hx with rfl | hx
      ·exact hk
      ·exact ih (i + 1) h x hx
   exact key 0 hj s hs.1 hs.2
  | some q =>
   obtain ⟨j, e⟩ := q
   dsimp only
   have := (vD (v := v) 0 ho.keys hj).2
   rw [Nat.sub_zero] at this
   rw [this]
theorem found_eq (f : β -> List AV) (k : List UInt8) (l : List (KE β)) (one c : Bool) (z : List AV) : found one c z (AEnt.find (.string (ah k)) (l.map (ent f)) 0) = (match get k l with
  | some v => if c = true then .tup [rB one (f v), .v (.bool true)] else rB one (f v)
  | none => if c = true then .tup [rB one z, .v (.bool false)] else rB one z) := by
 rw [jQ 0 (iG f k l)]
 unfold get find
 cases l.find? (fun x => decide (x.key = k)) <;> rfl
theorem put_ok {clock : Nat} {l : List (KE β)} (ho : Ok clock l) (k : List UInt8) (v : β) : Ok (tick k clock l) (put k clock v l) := by
 unfold put tick
 cases hf : find k l with
 | some s =>
  simp only [Q5, if_true]
  refine ⟨?_, ?_, fun x hx => ?_⟩
  ·rw [Rd, show KE.key ∘ upd k v = KE.key from funext (oc k v)]; exact ho.keys
  ·rw [Rd, show KE.born ∘ upd k v = KE.born from funext (tg k v)]; exact ho.borns
  ·obtain ⟨y, hy, rfl⟩ := Q1.1 hx
   rw [tg]; exact ho.lt y hy
 | none =>
  rw [if_neg (by simp), if_neg (by simp)]
  refine ⟨?_, ?_, fun x hx => ?_⟩
  ·rw [Q9, Rb]
   refine ⟨ho.keys, by simp, fun a ha b hb e => ?_⟩
   obtain ⟨x, hx, rfl⟩ := Q1.1 ha
   simp at hb
   subst hb
   exact nj hf x hx e
  ·rw [Q9, Rb]
   refine ⟨ho.borns, by simp, fun a ha b hb e => ?_⟩
   obtain ⟨x, hx, rfl⟩ := Q1.1 ha
   simp at hb
   have := ho.lt x hx
   omega
  ·rcases Q7.1 hx with hx | hx
   ·have := ho.lt x hx; omega
   ·rw [Q4.1 hx]; exact Nat.lt_succ_self _
theorem Hz {clock : Nat} {l : List (KE β)} (ho : Ok clock l) (k : List UInt8) : Ok clock (del k l) := by
 have hs : (del k l).Sublist l := List.eraseP_sublist ..
 exact ⟨ho.keys.sublist (hs.map _), ho.borns.sublist (hs.map _), fun x hx => ho.lt x (hs.subset hx)⟩
theorem wI {clock : Nat} {l : List (KE β)} (ho : Ok clock l) {k : List UInt8} {x : KE β} : x ∈ del k l ↔ x ∈ l /\ x.key ≠ k := by
 constructor
 ·exact fun h => gK ho.keys h
 ·intro ⟨h1, h2⟩
  exact (List.mem_eraseP_of_neg (by simpa using h2)).2 h1
theorem get_iff {clock : Nat} {l : List (KE β)} (ho : Ok clock l) {k : List UInt8} {v : β} : get k l = some v ↔ ∃ x ∈ l, x.key = k /\ x.val = v := by
 unfold get
 constructor
 ·intro h
  cases hf : find k l with
  | none => rw [hf] at h; cases h
  | some x =>
   rw [hf] at h
   injection h with h
   exact ⟨x, (bh hf).1, (bh hf).2, h⟩
 ·rintro ⟨x, hx, rfl, rfl⟩
  rw [C3 ho hx]; rfl
theorem opt_ext {α : Type} {a b : Option α} (h : ∀ v, a = some v ↔ b = some v) : a = b := by
 cases a with
 | some x => exact ((h x).1 rfl).symm
 | none =>
  cases b with
  | some x => exact (h x).2 rfl
  | none => rfl
theorem get_put {clock : Nat} {l : List (KE β)} (ho : Ok clock l) (k : List UInt8) (v : β) (k' : List UInt8) : get k' (put k clock v l) = if k' = k then some v else get k' l := by
 refine opt_ext fun u => ?_
 rw [get_iff (put_ok ho k v)]
 unfold put
 cases hf : find k l with
 | some s =>
  obtain ⟨h1, h2⟩ := bh hf
  simp only [Q5, if_true]
  constructor
  ·rintro ⟨x, hx, rfl, rfl⟩
   obtain ⟨y, hy, rfl⟩ := Q1.1 hx
   rw [oc]
   by_cases e : y.key = k
   ·rw [if_pos e]; unfold upd; rw [if_pos e]
   ·rw [if_neg e]; unfold upd; rw [if_neg e]; exact (get_iff ho).2 ⟨y, hy, rfl, rfl⟩
  ·intro h
   by_cases e : k' = k
   ·rw [if_pos e] at h
    injection h with h
    refine ⟨upd k v s, Q1.2 ⟨s, h1, rfl⟩, by rw [oc, h2, e], ?_⟩
    unfold upd; rw [if_pos h2]; exact h
   ·rw [if_neg e] at h
    obtain ⟨x, hx, h3, h4⟩ := (get_iff ho).1 h
    have hne : ¬ x.key = k := fun e2 => e (h3.symm.trans e2)
    exact ⟨upd k v x, Q1.2 ⟨x, hx, rfl⟩, by rw [oc, h3], by unfold upd; rw [if_neg hne]; exact h4⟩
 | none =>
  rw [if_neg (by simp)]
  constructor
  ·rintro ⟨x, hx, rfl, rfl⟩
   rcases Q7.1 hx with hx | hx
   ·rw [if_neg (nj hf x hx)]; exact (get_iff ho).2 ⟨x, hx, rfl, rfl⟩
   ·rw [Q4.1 hx]; simp
  ·intro h
   by_cases e : k' = k
   ·rw [if_pos e] at h
    injection h with h
    exact ⟨⟨k, clock, v⟩, by simp, e.symm, h⟩
   ·rw [if_neg e] at h
    obtain ⟨x, hx, h3, h4⟩ := (get_iff ho).1 h
    exact ⟨x, List.mem_append_left _ hx, h3, h4⟩
theorem get_del {clock : Nat} {l : List (KE β)} (ho : Ok clock l) (k k' : List UInt8) : get k' (del k l) = if k' = k then none else get k' l := by
 refine opt_ext fun u => ?_
 rw [get_iff (Hz ho k)]
 constructor
 ·rintro ⟨x, hx, rfl, rfl⟩
  obtain ⟨h1, h2⟩ := (wI ho).1 hx
  rw [if_neg h2]; exact (get_iff ho).2 ⟨x, h1, rfl, rfl⟩
 ·intro h
  by_cases e : k' = k
  ·rw [if_pos e] at h; cases h
  ·rw [if_neg e] at h
   obtain ⟨x, hx, h3, h4⟩ := (get_iff ho).1 h
   exact ⟨x, (wI ho).2 ⟨hx, fun e2 => e (h3.symm.trans e2)⟩, h3, h4⟩
theorem put_len (k : List UInt8) (clock : Nat) (v : β) (l : List (KE β)) : (put k clock v l).length = if (get k l).isSome = true then l.length else l.length + 1 := by
 rw [uW]
 unfold put
 split <;> simp
end KE
end Go.Proofs.YtdfgljojemmlcaaGreat.Ax
