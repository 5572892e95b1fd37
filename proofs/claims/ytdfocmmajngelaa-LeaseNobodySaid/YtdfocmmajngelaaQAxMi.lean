/- Maps whose keys are numbers, over values without memory: entries in the order in which they came. No program is named here. -/
import Derived.Test.YtdfocmmajngelaaQAxX
/- The functions of package slices that find by a function, that compare lists, over values without memory. No program is named here. Written by gen/slices.py. -/
namespace Go.Proofs.Ytdfocmmajngelaa.Ax
open Go.RowKit Go By
set_option linter.unusedSimpArgs false
set_option maxRecDepth 10000

end Go.Proofs.Ytdfocmmajngelaa.Ax
/- Maps over values without memory whose entries are a list's image; variables that own nothing. No program is named here. -/
namespace Go.Proofs.Ytdfocmmajngelaa.Ax
open Go.RowKit Go By
set_option linter.unusedSimpArgs false
set_option linter.unusedVariables false
set_option maxRecDepth 10000

/-! ### Entries made out of a list -/
theorem found_map {α : Type} {f : α → AEnt} {p : α → Bool} {k : Value} {one c : Bool} {z : List AV} : ∀ {l : List α} (i : Nat), (∀ s ∈ l, keyEq k (f s).key = p s) →
    found one c z (AEnt.find k (l.map f) i) = (match l.find? p with
      | some s => if c = true then .tup [elA one (f s).cells, .v (.bool true)] else elA one (f s).cells
      | none => if c = true then .tup [elA one z, .v (.bool false)] else elA one z)
  | [], i, _ => rfl
  | s :: l, i, h => by
    rw [List.map_cons]
    unfold AEnt.find
    rw [h s (List.mem_cons_self ..), List.find?_cons]
    cases p s with
    | true => rfl
    | false => exact found_map (i + 1) fun x hx => h x (List.mem_cons_of_mem _ hx)
theorem find_map_none {α : Type} {f : α → AEnt} {p : α → Bool} {k : Value} : ∀ {l : List α} (i : Nat), (∀ s ∈ l, keyEq k (f s).key = p s) → l.find? p = none → AEnt.find k (l.map f) i = none
  | [], i, _, _ => rfl
  | s :: l, i, h, hn => by
    rw [List.map_cons]
    unfold AEnt.find
    rw [h s (List.mem_cons_self ..)]
    rw [List.find?_cons] at hn
    cases hp : p s with
    | true => rw [hp] at hn; cases hn
    | false => rw [hp] at hn; exact find_map_none (i + 1) (fun x hx => h x (List.mem_cons_of_mem _ hx)) hn
theorem put_map_new {α : Type} {f : α → AEnt} {p : α → Bool} {k : Value} {l : List α} (clock : Nat) (cells : List AV) (h : ∀ s ∈ l, keyEq k (f s).key = p s) (hn : l.find? p = none) : AEnt.put k clock cells (l.map f) = (l.map f ++ [⟨k, clock, cells⟩], clock + 1) := by
  unfold AEnt.put
  rw [find_map_none 0 h hn]
theorem find_map_at {α : Type} {f : α → AEnt} {p : α → Bool} {k : Value} : ∀ {l : List α} (i : Nat), (∀ s ∈ l, keyEq k (f s).key = p s) → ∀ {j : Nat} {e : AEnt}, AEnt.find k (l.map f) i = some (j, e) → i ≤ j ∧ (l.map f).eraseIdx (j - i) = (l.eraseP p).map f
  | [], i, _, j, e, hj => by cases hj
  | s :: l, i, h, j, e, hj => by
    rw [List.map_cons] at hj
    unfold AEnt.find at hj
    rw [h s (List.mem_cons_self ..)] at hj
    cases hp : p s with
    | true =>
      rw [hp] at hj
      injection hj with hj
      injection hj with h1 h2
      subst h1
      simp [hp]
    | false =>
      rw [hp] at hj
      obtain ⟨h1, h2⟩ := find_map_at (i + 1) (fun x hx => h x (List.mem_cons_of_mem _ hx)) hj
      refine ⟨by omega, ?_⟩
      rw [show j - i = (j - (i + 1)) + 1 by omega]
      simp [hp, h2]
theorem del_map {α : Type} {f : α → AEnt} {p : α → Bool} {k : Value} {l : List α} (h : ∀ s ∈ l, keyEq k (f s).key = p s) : AEnt.del k (l.map f) = (l.eraseP p).map f := by
  unfold AEnt.del
  cases hj : AEnt.find k (l.map f) 0 with
  | some q =>
    obtain ⟨j, e⟩ := q
    exact (find_map_at 0 h hj).2
  | none =>
    have : ∀ s ∈ l, ¬ p s = true := fun s hs hp => by
      have key : ∀ {l : List α} (i : Nat), (∀ s ∈ l, keyEq k (f s).key = p s) → AEnt.find k (l.map f) i = none → ∀ s ∈ l, ¬ p s = true := by
        intro l
        induction l with
        | nil => intro i _ _ s hs; cases hs
        | cons x l ih =>
          intro i hh hn s hs
          rw [List.map_cons] at hn
          unfold AEnt.find at hn
          rw [hh x (List.mem_cons_self ..)] at hn
          cases hx : p x with
          | true => rw [hx] at hn; cases hn
          | false =>
            rw [hx] at hn
            rcases List.mem_cons.1 hs with rfl | hs
            · simp [hx]
            · exact ih (i + 1) (fun y hy => hh y (List.mem_cons_of_mem _ hy)) hn s hs
      exact key 0 h hj s hs hp
    rw [List.eraseP_of_forall_not this]
theorem keyEq_str (x y : List UInt8) : keyEq (.string (strB x)) (.string (strB y)) = (x == y) := by
  show (strB x == strB y) = (x == y)
  rw [Bool.eq_iff_iff]
  constructor
  · intro h
    have := bytes_beq h
    have := congrArg (fun b : ByteArray => b.data.toList) this
    simpa [strB_data] using this
  · intro h
    have e : x = y := by simpa using h
    subst e
    show (strB x).data == (strB x).data
    simp
theorem keyEq_int (a b : Int) : keyEq (.int .i64 a) (.int .i64 b) = decide (b = a) := by
  show (IntKind.i64 == IntKind.i64 && a == b) = _
  rw [Bool.eq_iff_iff]
  simp
  exact eq_comm

theorem map_inj_mem {α β : Type} {f : α → β} : ∀ {l : List α}, (l.map f).Nodup → ∀ {x y : α}, x ∈ l → y ∈ l → f x = f y → x = y
  | a :: l, h, x, y, hx, hy, e => by
    rw [List.map_cons, List.nodup_cons] at h
    rcases List.mem_cons.1 hx with h1 | h1 <;> rcases List.mem_cons.1 hy with h2 | h2
    · rw [h1, h2]
    · exact (h.1 (List.mem_map.2 ⟨y, h2, by rw [← h1]; exact e.symm⟩)).elim
    · exact (h.1 (List.mem_map.2 ⟨x, h1, by rw [← h2]; exact e⟩)).elim
    · exact map_inj_mem h.2 h1 h2 e
theorem mem_eraseP_ne {α β : Type} [DecidableEq β] {f : α → β} {b : β} : ∀ {l : List α}, (l.map f).Nodup → ∀ {x : α}, x ∈ l.eraseP (fun y => decide (f y = b)) → x ∈ l ∧ f x ≠ b
  | [], _, x, hx => by simp at hx
  | a :: l, h, x, hx => by
    rw [List.map_cons, List.nodup_cons] at h
    rw [List.eraseP_cons] at hx
    by_cases e : f a = b
    · simp [e] at hx
      exact ⟨List.mem_cons_of_mem _ hx, fun e2 => h.1 (List.mem_map.2 ⟨x, hx, e2.trans e.symm⟩)⟩
    · simp [e] at hx
      rcases hx with rfl | hx
      · exact ⟨List.mem_cons_self .., e⟩
      · obtain ⟨h1, h2⟩ := mem_eraseP_ne h.2 hx
        exact ⟨List.mem_cons_of_mem _ h1, h2⟩
end Go.Proofs.Ytdfocmmajngelaa.Ax
/- Maps whose keys are texts, over values without memory: entries in the order in which they came. No program is named here. -/
namespace Go.Proofs.Ytdfocmmajngelaa.Ax
open Go.RowKit Go By
set_option linter.unusedSimpArgs false
set_option linter.unusedVariables false
set_option maxRecDepth 10000

structure KE (β : Type) where
  key : List UInt8
  born : Nat
  val : β
namespace KE
variable {β : Type}
def ent (f : β → List AV) (x : KE β) : AEnt := ⟨.string (strB x.key), x.born, f x.val⟩
def find (k : List UInt8) (l : List (KE β)) : Option (KE β) := l.find? fun x => decide (x.key = k)
def get (k : List UInt8) (l : List (KE β)) : Option β := (find k l).map KE.val
def upd (k : List UInt8) (v : β) (x : KE β) : KE β := if x.key = k then { x with val := v } else x
def put (k : List UInt8) (clock : Nat) (v : β) (l : List (KE β)) : List (KE β) := if (find k l).isSome = true then l.map (upd k v) else l ++ [⟨k, clock, v⟩]
def tick (k : List UInt8) (clock : Nat) (l : List (KE β)) : Nat := if (find k l).isSome = true then clock else clock + 1
def del (k : List UInt8) (l : List (KE β)) : List (KE β) := l.eraseP fun x => decide (x.key = k)
structure Ok (clock : Nat) (l : List (KE β)) : Prop where
  keys : (l.map KE.key).Nodup
  borns : (l.map KE.born).Nodup
  lt : ∀ x ∈ l, x.born < clock
theorem upd_key (k : List UInt8) (v : β) (x : KE β) : (upd k v x).key = x.key := by unfold upd; split <;> rfl
theorem upd_born (k : List UInt8) (v : β) (x : KE β) : (upd k v x).born = x.born := by unfold upd; split <;> rfl
theorem find_mem {k : List UInt8} {l : List (KE β)} {x : KE β} (h : find k l = some x) : x ∈ l ∧ x.key = k := ⟨List.mem_of_find?_eq_some h, by simpa using List.find?_some h⟩
theorem find_none {k : List UInt8} {l : List (KE β)} (h : find k l = none) : ∀ x ∈ l, x.key ≠ k := fun x hx => by
  have := List.find?_eq_none.1 h x hx
  simpa using this
theorem find_of {clock : Nat} {l : List (KE β)} (ho : Ok clock l) {x : KE β} (hx : x ∈ l) : find x.key l = some x := by
  cases hf : find x.key l with
  | none => exact absurd rfl (find_none hf x hx)
  | some y =>
    obtain ⟨h1, h2⟩ := find_mem hf
    rw [map_inj_mem ho.keys h1 hx h2]
theorem ents_of {f : β → List AV} {n : Nat} (hf : ∀ v, (f v).length = n) (clock : Nat) (l : List (KE β)) : mapOf n (mapC clock (l.map (ent f))) = some (clock, l.map (ent f)) := mapOf_mapC fun e he => by obtain ⟨s, _, rfl⟩ := List.mem_map.1 he; exact hf _
theorem ents_keys {f : β → List AV} (hf : ∀ v, ∀ c ∈ f v, c.idOf = none) (l : List (KE β)) : keysOk none (l.map (ent f)) := fun e he => by
  obtain ⟨s, _, rfl⟩ := List.mem_map.1 he
  exact ⟨rfl, hf _⟩
theorem ents_eq (f : β → List AV) (k : List UInt8) (l : List (KE β)) : ∀ s ∈ l, keyEq (.string (strB k)) (s.ent f).key = decide (s.key = k) := fun s _ => by
  show keyEq (.string (strB k)) (.string (strB s.key)) = _
  rw [keyEq_str, Bool.eq_iff_iff]
  simp
  exact eq_comm
theorem del_eq (f : β → List AV) (k : List UInt8) (l : List (KE β)) : AEnt.del (.string (strB k)) (l.map (ent f)) = (del k l).map (ent f) := del_map (ents_eq f k l)
theorem upd_other {k : List UInt8} {v : β} : ∀ {l : List (KE β)}, (∀ x ∈ l, x.key ≠ k) → l.map (upd k v) = l
  | [], _ => rfl
  | a :: l, h => by
    have h1 : upd k v a = a := by unfold upd; rw [if_neg (h a (List.mem_cons_self ..))]
    rw [List.map_cons, h1, upd_other fun x hx => h x (List.mem_cons_of_mem _ hx)]
theorem set_at {f : β → List AV} {k : List UInt8} {v : β} : ∀ {l : List (KE β)} (i : Nat), (l.map KE.key).Nodup → ∀ {j : Nat} {e : AEnt}, AEnt.find (.string (strB k)) (l.map (ent f)) i = some (j, e) → i ≤ j ∧ (l.map (ent f)).set (j - i) ⟨.string (strB k), e.born, f v⟩ = (l.map (upd k v)).map (ent f)
  | [], i, _, j, e, h => by cases h
  | s :: l, i, hn, j, e, h => by
    rw [List.map_cons, List.nodup_cons] at hn
    rw [List.map_cons] at h
    unfold AEnt.find at h
    rw [ents_eq f k [s] s (List.mem_singleton.2 rfl)] at h
    by_cases hk : s.key = k
    · rw [if_pos (by simpa using hk)] at h
      injection h with h
      injection h with h1 h2
      subst h1 h2
      refine ⟨Nat.le_refl _, ?_⟩
      rw [Nat.sub_self, List.map_cons, List.map_cons, upd_other (k := k) (l := l) fun x hx e => hn.1 (List.mem_map.2 ⟨x, hx, e.trans hk.symm⟩)]
      have : upd k v s = { s with val := v } := by unfold upd; rw [if_pos hk]
      rw [this, List.set_cons_zero, List.map_cons]
      subst hk
      rfl
    · rw [if_neg (by simpa using hk)] at h
      obtain ⟨h1, h2⟩ := set_at (i + 1) hn.2 h
      refine ⟨by omega, ?_⟩
      have : upd k v s = s := by unfold upd; rw [if_neg hk]
      rw [show j - i = (j - (i + 1)) + 1 by omega, List.map_cons, List.map_cons, this, List.set_cons_succ, h2, List.map_cons]
theorem put_eq (f : β → List AV) {clock : Nat} {l : List (KE β)} (ho : Ok clock l) (k : List UInt8) (v : β) : AEnt.put (.string (strB k)) clock (f v) (l.map (ent f)) = ((put k clock v l).map (ent f), tick k clock l) := by
  unfold put tick
  cases hf : find k l with
  | none =>
    rw [if_neg (by simp), if_neg (by simp)]
    rw [put_map_new clock (f v) (ents_eq f k l) hf, List.map_append]
    rfl
  | some s =>
    simp only [Option.isSome_some, if_true]
    unfold AEnt.put
    cases hj : AEnt.find (.string (strB k)) (l.map (ent f)) 0 with
    | none =>
      exfalso
      have hs := find_mem hf
      have key : ∀ {l : List (KE β)} (i : Nat), AEnt.find (.string (strB k)) (l.map (ent f)) i = none → ∀ x ∈ l, x.key ≠ k := by
        intro l
        induction l with
        | nil => intro i _ x hx; cases hx
        | cons a l ih =>
          intro i h x hx
          rw [List.map_cons] at h
          unfold AEnt.find at h
          rw [ents_eq f k [a] a (List.mem_singleton.2 rfl)] at h
          by_cases hk : a.key = k
          · rw [if_pos (by simpa using hk)] at h; cases h
          · rw [if_neg (by simpa using hk)] at h
            rcases List.mem_cons.1 hx with rfl | hx
            · exact hk
            · exact ih (i + 1) h x hx
      exact key 0 hj s hs.1 hs.2
    | some q =>
      obtain ⟨j, e⟩ := q
      dsimp only
      have := (set_at (v := v) 0 ho.keys hj).2
      rw [Nat.sub_zero] at this
      rw [this]
theorem found_eq (f : β → List AV) (k : List UInt8) (l : List (KE β)) (one c : Bool) (z : List AV) : found one c z (AEnt.find (.string (strB k)) (l.map (ent f)) 0) = (match get k l with
    | some v => if c = true then .tup [elA one (f v), .v (.bool true)] else elA one (f v)
    | none => if c = true then .tup [elA one z, .v (.bool false)] else elA one z) := by
  rw [found_map 0 (ents_eq f k l)]
  unfold get find
  cases l.find? (fun x => decide (x.key = k)) <;> rfl
theorem at_born {f : β → List AV} : ∀ {l : List (KE β)}, (l.map KE.born).Nodup → ∀ {s : KE β}, s ∈ l → AEnt.at_ s.born (l.map (ent f)) = some (s.ent f)
  | x :: l, hn, s, hs => by
    rw [List.map_cons, List.nodup_cons] at hn
    rw [List.map_cons]
    unfold AEnt.at_
    by_cases e : x.born = s.born
    · have hx : x = s := by
        rcases List.mem_cons.1 hs with h | h
        · exact h.symm
        · exact absurd (List.mem_map.2 ⟨s, h, e.symm⟩) hn.1
      subst hx
      rw [if_pos (show (x.ent f).born = x.born from rfl)]
    · have hs2 : s ∈ l := by
        rcases List.mem_cons.1 hs with h | h
        · exact absurd (by rw [h]) e
        · exact h
      rw [if_neg (show ¬ (x.ent f).born = s.born from e)]
      exact at_born hn.2 hs2
/-! ### What the calls keep -/
theorem put_ok {clock : Nat} {l : List (KE β)} (ho : Ok clock l) (k : List UInt8) (v : β) : Ok (tick k clock l) (put k clock v l) := by
  unfold put tick
  cases hf : find k l with
  | some s =>
    simp only [Option.isSome_some, if_true]
    refine ⟨?_, ?_, fun x hx => ?_⟩
    · rw [List.map_map, show KE.key ∘ upd k v = KE.key from funext (upd_key k v)]; exact ho.keys
    · rw [List.map_map, show KE.born ∘ upd k v = KE.born from funext (upd_born k v)]; exact ho.borns
    · obtain ⟨y, hy, rfl⟩ := List.mem_map.1 hx
      rw [upd_born]; exact ho.lt y hy
  | none =>
    rw [if_neg (by simp), if_neg (by simp)]
    refine ⟨?_, ?_, fun x hx => ?_⟩
    · rw [List.map_append, List.nodup_append]
      refine ⟨ho.keys, by simp, fun a ha b hb e => ?_⟩
      obtain ⟨x, hx, rfl⟩ := List.mem_map.1 ha
      simp at hb
      subst hb
      exact find_none hf x hx e
    · rw [List.map_append, List.nodup_append]
      refine ⟨ho.borns, by simp, fun a ha b hb e => ?_⟩
      obtain ⟨x, hx, rfl⟩ := List.mem_map.1 ha
      simp at hb
      have := ho.lt x hx
      omega
    · rcases List.mem_append.1 hx with hx | hx
      · have := ho.lt x hx; omega
      · rw [List.mem_singleton.1 hx]; exact Nat.lt_succ_self _
theorem del_ok {clock : Nat} {l : List (KE β)} (ho : Ok clock l) (k : List UInt8) : Ok clock (del k l) := by
  have hs : (del k l).Sublist l := List.eraseP_sublist ..
  exact ⟨ho.keys.sublist (hs.map _), ho.borns.sublist (hs.map _), fun x hx => ho.lt x (hs.subset hx)⟩
theorem mem_del {clock : Nat} {l : List (KE β)} (ho : Ok clock l) {k : List UInt8} {x : KE β} : x ∈ del k l ↔ x ∈ l ∧ x.key ≠ k := by
  constructor
  · exact fun h => mem_eraseP_ne ho.keys h
  · intro ⟨h1, h2⟩
    exact (List.mem_eraseP_of_neg (by simpa using h2)).2 h1
theorem get_iff {clock : Nat} {l : List (KE β)} (ho : Ok clock l) {k : List UInt8} {v : β} : get k l = some v ↔ ∃ x ∈ l, x.key = k ∧ x.val = v := by
  unfold get
  constructor
  · intro h
    cases hf : find k l with
    | none => rw [hf] at h; cases h
    | some x =>
      rw [hf] at h
      injection h with h
      exact ⟨x, (find_mem hf).1, (find_mem hf).2, h⟩
  · rintro ⟨x, hx, rfl, rfl⟩
    rw [find_of ho hx]; rfl
theorem opt_ext {α : Type} {a b : Option α} (h : ∀ v, a = some v ↔ b = some v) : a = b := by
  cases a with
  | some x => exact ((h x).1 rfl).symm
  | none =>
    cases b with
    | some x => exact (h x).2 rfl
    | none => rfl
theorem get_put {clock : Nat} {l : List (KE β)} (ho : Ok clock l) (k : List UInt8) (v : β) (k' : List UInt8) : get k' (put k clock v l) = if k' = k then some v else get k' l := by
  refine opt_ext fun u => ?_
  rw [get_iff (put_ok ho k v)]
  unfold put
  cases hf : find k l with
  | some s =>
    obtain ⟨h1, h2⟩ := find_mem hf
    simp only [Option.isSome_some, if_true]
    constructor
    · rintro ⟨x, hx, rfl, rfl⟩
      obtain ⟨y, hy, rfl⟩ := List.mem_map.1 hx
      rw [upd_key]
      by_cases e : y.key = k
      · rw [if_pos e]; unfold upd; rw [if_pos e]
      · rw [if_neg e]; unfold upd; rw [if_neg e]; exact (get_iff ho).2 ⟨y, hy, rfl, rfl⟩
    · intro h
      by_cases e : k' = k
      · rw [if_pos e] at h
        injection h with h
        refine ⟨upd k v s, List.mem_map.2 ⟨s, h1, rfl⟩, by rw [upd_key, h2, e], ?_⟩
        unfold upd; rw [if_pos h2]; exact h
      · rw [if_neg e] at h
        obtain ⟨x, hx, h3, h4⟩ := (get_iff ho).1 h
        have hne : ¬ x.key = k := fun e2 => e (h3.symm.trans e2)
        exact ⟨upd k v x, List.mem_map.2 ⟨x, hx, rfl⟩, by rw [upd_key, h3], by unfold upd; rw [if_neg hne]; exact h4⟩
  | none =>
    rw [if_neg (by simp)]
    constructor
    · rintro ⟨x, hx, rfl, rfl⟩
      rcases List.mem_append.1 hx with hx | hx
      · rw [if_neg (find_none hf x hx)]; exact (get_iff ho).2 ⟨x, hx, rfl, rfl⟩
      · rw [List.mem_singleton.1 hx]; simp
    · intro h
      by_cases e : k' = k
      · rw [if_pos e] at h
        injection h with h
        exact ⟨⟨k, clock, v⟩, by simp, e.symm, h⟩
      · rw [if_neg e] at h
        obtain ⟨x, hx, h3, h4⟩ := (get_iff ho).1 h
        exact ⟨x, List.mem_append_left _ hx, h3, h4⟩
theorem get_del {clock : Nat} {l : List (KE β)} (ho : Ok clock l) (k k' : List UInt8) : get k' (del k l) = if k' = k then none else get k' l := by
  refine opt_ext fun u => ?_
  rw [get_iff (del_ok ho k)]
  constructor
  · rintro ⟨x, hx, rfl, rfl⟩
    obtain ⟨h1, h2⟩ := (mem_del ho).1 hx
    rw [if_neg h2]; exact (get_iff ho).2 ⟨x, h1, rfl, rfl⟩
  · intro h
    by_cases e : k' = k
    · rw [if_pos e] at h; cases h
    · rw [if_neg e] at h
      obtain ⟨x, hx, h3, h4⟩ := (get_iff ho).1 h
      exact ⟨x, (mem_del ho).2 ⟨hx, fun e2 => e (h3.symm.trans e2)⟩, h3, h4⟩
/-! ### A loop over all of them -/
structure Seen (l s : List (KE β)) : Prop where
  nodup : s.Nodup
  sub : ∀ x ∈ s, x ∈ l
theorem Seen.le {l s : List (KE β)} (h : Seen l s) : s.length ≤ l.length := h.nodup.length_le_of_subset fun x hx => h.sub x hx
theorem Seen.snoc {l s : List (KE β)} (h : Seen l s) {x : KE β} (hx : x ∈ l) (hn : x ∉ s) : Seen l (s ++ [x]) := by
  refine ⟨?_, fun y hy => ?_⟩
  · rw [List.nodup_append]
    exact ⟨h.nodup, by simp, fun a ha b hb e => hn (by rw [← List.mem_singleton.1 hb, ← e]; exact ha)⟩
  · rcases List.mem_append.1 hy with hy | hy
    · exact h.sub y hy
    · rw [List.mem_singleton.1 hy]; exact hx
theorem Seen.perm {clock : Nat} {l s : List (KE β)} (h : Seen l s) (ho : Ok clock l) (hall : ∀ x ∈ l, ∃ y ∈ s, y.born = x.born) : s.Perm l := by
  have hl : l.Nodup := by
    have := ho.borns
    unfold List.Nodup at this ⊢
    rw [List.pairwise_map] at this
    exact this.imp fun h e => h (by rw [e])
  refine (List.perm_ext_iff_of_nodup h.nodup hl).2 fun x => ⟨fun hx => h.sub x hx, fun hx => ?_⟩
  obtain ⟨y, hy, e⟩ := hall x hx
  rw [← map_inj_mem ho.borns (h.sub y hy) hx e]; exact hy
end KE

theorem mapC_ltE {l : List AEnt} {n t : Nat} (h : ∀ e ∈ l, ltL n e.cells) : ltL n (mapC t l) := by
  refine ltL_of fun j c hj => ?_
  have hc := List.mem_of_getElem? hj
  unfold mapC at hc
  rcases List.mem_cons.1 hc with rfl | hc
  · trivial
  rcases List.mem_cons.1 hc with rfl | hc
  · trivial
  obtain ⟨e, he, hc⟩ := List.mem_flatMap.1 hc
  unfold AEnt.avs at hc
  rcases List.mem_cons.1 hc with rfl | hc
  · trivial
  rcases List.mem_cons.1 hc with rfl | hc
  · trivial
  obtain ⟨q, hq⟩ := List.getElem?_of_mem hc
  exact ltL_get (h e he) q c hq
end Go.Proofs.Ytdfocmmajngelaa.Ax
namespace Go.Proofs.Ytdfocmmajngelaa.Ax
open Go.RowKit Go By
set_option linter.unusedSimpArgs false
set_option linter.unusedVariables false
set_option maxRecDepth 10000

structure IE (β : Type) where
  key : Int
  born : Nat
  val : β
namespace IE
variable {β : Type}
def ent (f : β → List AV) (x : IE β) : AEnt := ⟨.int .i64 x.key, x.born, f x.val⟩
def find (k : Int) (l : List (IE β)) : Option (IE β) := l.find? fun x => decide (x.key = k)
def get (k : Int) (l : List (IE β)) : Option β := (find k l).map IE.val
def upd (k : Int) (v : β) (x : IE β) : IE β := if x.key = k then { x with val := v } else x
def put (k : Int) (clock : Nat) (v : β) (l : List (IE β)) : List (IE β) := if (find k l).isSome = true then l.map (upd k v) else l ++ [⟨k, clock, v⟩]
def tick (k : Int) (clock : Nat) (l : List (IE β)) : Nat := if (find k l).isSome = true then clock else clock + 1
def del (k : Int) (l : List (IE β)) : List (IE β) := l.eraseP fun x => decide (x.key = k)
structure Ok (clock : Nat) (l : List (IE β)) : Prop where
  keys : (l.map IE.key).Nodup
  borns : (l.map IE.born).Nodup
  lt : ∀ x ∈ l, x.born < clock
theorem upd_key (k : Int) (v : β) (x : IE β) : (upd k v x).key = x.key := by unfold upd; split <;> rfl
theorem upd_born (k : Int) (v : β) (x : IE β) : (upd k v x).born = x.born := by unfold upd; split <;> rfl
theorem find_mem {k : Int} {l : List (IE β)} {x : IE β} (h : find k l = some x) : x ∈ l ∧ x.key = k := ⟨List.mem_of_find?_eq_some h, by simpa using List.find?_some h⟩
theorem find_none {k : Int} {l : List (IE β)} (h : find k l = none) : ∀ x ∈ l, x.key ≠ k := fun x hx => by
  have := List.find?_eq_none.1 h x hx
  simpa using this
theorem find_of {clock : Nat} {l : List (IE β)} (ho : Ok clock l) {x : IE β} (hx : x ∈ l) : find x.key l = some x := by
  cases hf : find x.key l with
  | none => exact absurd rfl (find_none hf x hx)
  | some y =>
    obtain ⟨h1, h2⟩ := find_mem hf
    rw [map_inj_mem ho.keys h1 hx h2]
theorem ents_of {f : β → List AV} {n : Nat} (hf : ∀ v, (f v).length = n) (clock : Nat) (l : List (IE β)) : mapOf n (mapC clock (l.map (ent f))) = some (clock, l.map (ent f)) := mapOf_mapC fun e he => by obtain ⟨s, _, rfl⟩ := List.mem_map.1 he; exact hf _
theorem ents_keys {f : β → List AV} (hf : ∀ v, ∀ c ∈ f v, c.idOf = none) (l : List (IE β)) : keysOk (some .i64) (l.map (ent f)) := fun e he => by
  obtain ⟨s, _, rfl⟩ := List.mem_map.1 he
  exact ⟨isKeyV_int _ _, hf _⟩
theorem ents_eq (f : β → List AV) (k : Int) (l : List (IE β)) : ∀ s ∈ l, keyEq (.int .i64 k) (s.ent f).key = decide (s.key = k) := fun s _ => by
  show keyEq (.int .i64 k) (.int .i64 s.key) = _
  rw [keyEq_int]
theorem del_eq (f : β → List AV) (k : Int) (l : List (IE β)) : AEnt.del (.int .i64 k) (l.map (ent f)) = (del k l).map (ent f) := del_map (ents_eq f k l)
theorem upd_other {k : Int} {v : β} : ∀ {l : List (IE β)}, (∀ x ∈ l, x.key ≠ k) → l.map (upd k v) = l
  | [], _ => rfl
  | a :: l, h => by
    have h1 : upd k v a = a := by unfold upd; rw [if_neg (h a (List.mem_cons_self ..))]
    rw [List.map_cons, h1, upd_other fun x hx => h x (List.mem_cons_of_mem _ hx)]
theorem set_at {f : β → List AV} {k : Int} {v : β} : ∀ {l : List (IE β)} (i : Nat), (l.map IE.key).Nodup → ∀ {j : Nat} {e : AEnt}, AEnt.find (.int .i64 k) (l.map (ent f)) i = some (j, e) → i ≤ j ∧ (l.map (ent f)).set (j - i) ⟨.int .i64 k, e.born, f v⟩ = (l.map (upd k v)).map (ent f)
  | [], i, _, j, e, h => by cases h
  | s :: l, i, hn, j, e, h => by
    rw [List.map_cons, List.nodup_cons] at hn
    rw [List.map_cons] at h
    unfold AEnt.find at h
    rw [ents_eq f k [s] s (List.mem_singleton.2 rfl)] at h
    by_cases hk : s.key = k
    · rw [if_pos (by simpa using hk)] at h
      injection h with h
      injection h with h1 h2
      subst h1 h2
      refine ⟨Nat.le_refl _, ?_⟩
      rw [Nat.sub_self, List.map_cons, List.map_cons, upd_other (k := k) (l := l) fun x hx e => hn.1 (List.mem_map.2 ⟨x, hx, e.trans hk.symm⟩)]
      have : upd k v s = { s with val := v } := by unfold upd; rw [if_pos hk]
      rw [this, List.set_cons_zero, List.map_cons]
      subst hk
      rfl
    · rw [if_neg (by simpa using hk)] at h
      obtain ⟨h1, h2⟩ := set_at (i + 1) hn.2 h
      refine ⟨by omega, ?_⟩
      have : upd k v s = s := by unfold upd; rw [if_neg hk]
      rw [show j - i = (j - (i + 1)) + 1 by omega, List.map_cons, List.map_cons, this, List.set_cons_succ, h2, List.map_cons]
theorem put_eq (f : β → List AV) {clock : Nat} {l : List (IE β)} (ho : Ok clock l) (k : Int) (v : β) : AEnt.put (.int .i64 k) clock (f v) (l.map (ent f)) = ((put k clock v l).map (ent f), tick k clock l) := by
  unfold put tick
  cases hf : find k l with
  | none =>
    rw [if_neg (by simp), if_neg (by simp)]
    rw [put_map_new clock (f v) (ents_eq f k l) hf, List.map_append]
    rfl
  | some s =>
    simp only [Option.isSome_some, if_true]
    unfold AEnt.put
    cases hj : AEnt.find (.int .i64 k) (l.map (ent f)) 0 with
    | none =>
      exfalso
      have hs := find_mem hf
      have key : ∀ {l : List (IE β)} (i : Nat), AEnt.find (.int .i64 k) (l.map (ent f)) i = none → ∀ x ∈ l, x.key ≠ k := by
        intro l
        induction l with
        | nil => intro i _ x hx; cases hx
        | cons a l ih =>
          intro i h x hx
          rw [List.map_cons] at h
          unfold AEnt.find at h
          rw [ents_eq f k [a] a (List.mem_singleton.2 rfl)] at h
          by_cases hk : a.key = k
          · rw [if_pos (by simpa using hk)] at h; cases h
          · rw [if_neg (by simpa using hk)] at h
            rcases List.mem_cons.1 hx with rfl | hx
            · exact hk
            · exact ih (i + 1) h x hx
      exact key 0 hj s hs.1 hs.2
    | some q =>
      obtain ⟨j, e⟩ := q
      dsimp only
      have := (set_at (v := v) 0 ho.keys hj).2
      rw [Nat.sub_zero] at this
      rw [this]
theorem found_eq (f : β → List AV) (k : Int) (l : List (IE β)) (one c : Bool) (z : List AV) : found one c z (AEnt.find (.int .i64 k) (l.map (ent f)) 0) = (match get k l with
    | some v => if c = true then .tup [elA one (f v), .v (.bool true)] else elA one (f v)
    | none => if c = true then .tup [elA one z, .v (.bool false)] else elA one z) := by
  rw [found_map 0 (ents_eq f k l)]
  unfold get find
  cases l.find? (fun x => decide (x.key = k)) <;> rfl
theorem at_born {f : β → List AV} : ∀ {l : List (IE β)}, (l.map IE.born).Nodup → ∀ {s : IE β}, s ∈ l → AEnt.at_ s.born (l.map (ent f)) = some (s.ent f)
  | x :: l, hn, s, hs => by
    rw [List.map_cons, List.nodup_cons] at hn
    rw [List.map_cons]
    unfold AEnt.at_
    by_cases e : x.born = s.born
    · have hx : x = s := by
        rcases List.mem_cons.1 hs with h | h
        · exact h.symm
        · exact absurd (List.mem_map.2 ⟨s, h, e.symm⟩) hn.1
      subst hx
      rw [if_pos (show (x.ent f).born = x.born from rfl)]
    · have hs2 : s ∈ l := by
        rcases List.mem_cons.1 hs with h | h
        · exact absurd (by rw [h]) e
        · exact h
      rw [if_neg (show ¬ (x.ent f).born = s.born from e)]
      exact at_born hn.2 hs2
/-! ### What the calls keep -/
theorem put_ok {clock : Nat} {l : List (IE β)} (ho : Ok clock l) (k : Int) (v : β) : Ok (tick k clock l) (put k clock v l) := by
  unfold put tick
  cases hf : find k l with
  | some s =>
    simp only [Option.isSome_some, if_true]
    refine ⟨?_, ?_, fun x hx => ?_⟩
    · rw [List.map_map, show IE.key ∘ upd k v = IE.key from funext (upd_key k v)]; exact ho.keys
    · rw [List.map_map, show IE.born ∘ upd k v = IE.born from funext (upd_born k v)]; exact ho.borns
    · obtain ⟨y, hy, rfl⟩ := List.mem_map.1 hx
      rw [upd_born]; exact ho.lt y hy
  | none =>
    rw [if_neg (by simp), if_neg (by simp)]
    refine ⟨?_, ?_, fun x hx => ?_⟩
    · rw [List.map_append, List.nodup_append]
      refine ⟨ho.keys, by simp, fun a ha b hb e => ?_⟩
      obtain ⟨x, hx, rfl⟩ := List.mem_map.1 ha
      simp at hb
      subst hb
      exact find_none hf x hx e
    · rw [List.map_append, List.nodup_append]
      refine ⟨ho.borns, by simp, fun a ha b hb e => ?_⟩
      obtain ⟨x, hx, rfl⟩ := List.mem_map.1 ha
      simp at hb
      have := ho.lt x hx
      omega
    · rcases List.mem_append.1 hx with hx | hx
      · have := ho.lt x hx; omega
      · rw [List.mem_singleton.1 hx]; exact Nat.lt_succ_self _
theorem del_ok {clock : Nat} {l : List (IE β)} (ho : Ok clock l) (k : Int) : Ok clock (del k l) := by
  have hs : (del k l).Sublist l := List.eraseP_sublist ..
  exact ⟨ho.keys.sublist (hs.map _), ho.borns.sublist (hs.map _), fun x hx => ho.lt x (hs.subset hx)⟩
theorem mem_del {clock : Nat} {l : List (IE β)} (ho : Ok clock l) {k : Int} {x : IE β} : x ∈ del k l ↔ x ∈ l ∧ x.key ≠ k := by
  constructor
  · exact fun h => mem_eraseP_ne ho.keys h
  · intro ⟨h1, h2⟩
    exact (List.mem_eraseP_of_neg (by simpa using h2)).2 h1
theorem get_iff {clock : Nat} {l : List (IE β)} (ho : Ok clock l) {k : Int} {v : β} : get k l = some v ↔ ∃ x ∈ l, x.key = k ∧ x.val = v := by
  unfold get
  constructor
  · intro h
    cases hf : find k l with
    | none => rw [hf] at h; cases h
    | some x =>
      rw [hf] at h
      injection h with h
      exact ⟨x, (find_mem hf).1, (find_mem hf).2, h⟩
  · rintro ⟨x, hx, rfl, rfl⟩
    rw [find_of ho hx]; rfl
theorem opt_ext {α : Type} {a b : Option α} (h : ∀ v, a = some v ↔ b = some v) : a = b := by
  cases a with
  | some x => exact ((h x).1 rfl).symm
  | none =>
    cases b with
    | some x => exact (h x).2 rfl
    | none => rfl
theorem get_put {clock : Nat} {l : List (IE β)} (ho : Ok clock l) (k : Int) (v : β) (k' : Int) : get k' (put k clock v l) = if k' = k then some v else get k' l := by
  refine opt_ext fun u => ?_
  rw [get_iff (put_ok ho k v)]
  unfold put
  cases hf : find k l with
  | some s =>
    obtain ⟨h1, h2⟩ := find_mem hf
    simp only [Option.isSome_some, if_true]
    constructor
    · rintro ⟨x, hx, rfl, rfl⟩
      obtain ⟨y, hy, rfl⟩ := List.mem_map.1 hx
      rw [upd_key]
      by_cases e : y.key = k
      · rw [if_pos e]; unfold upd; rw [if_pos e]
      · rw [if_neg e]; unfold upd; rw [if_neg e]; exact (get_iff ho).2 ⟨y, hy, rfl, rfl⟩
    · intro h
      by_cases e : k' = k
      · rw [if_pos e] at h
        injection h with h
        refine ⟨upd k v s, List.mem_map.2 ⟨s, h1, rfl⟩, by rw [upd_key, h2, e], ?_⟩
        unfold upd; rw [if_pos h2]; exact h
      · rw [if_neg e] at h
        obtain ⟨x, hx, h3, h4⟩ := (get_iff ho).1 h
        have hne : ¬ x.key = k := fun e2 => e (h3.symm.trans e2)
        exact ⟨upd k v x, List.mem_map.2 ⟨x, hx, rfl⟩, by rw [upd_key, h3], by unfold upd; rw [if_neg hne]; exact h4⟩
  | none =>
    rw [if_neg (by simp)]
    constructor
    · rintro ⟨x, hx, rfl, rfl⟩
      rcases List.mem_append.1 hx with hx | hx
      · rw [if_neg (find_none hf x hx)]; exact (get_iff ho).2 ⟨x, hx, rfl, rfl⟩
      · rw [List.mem_singleton.1 hx]; simp
    · intro h
      by_cases e : k' = k
      · rw [if_pos e] at h
        injection h with h
        exact ⟨⟨k, clock, v⟩, by simp, e.symm, h⟩
      · rw [if_neg e] at h
        obtain ⟨x, hx, h3, h4⟩ := (get_iff ho).1 h
        exact ⟨x, List.mem_append_left _ hx, h3, h4⟩
theorem get_del {clock : Nat} {l : List (IE β)} (ho : Ok clock l) (k k' : Int) : get k' (del k l) = if k' = k then none else get k' l := by
  refine opt_ext fun u => ?_
  rw [get_iff (del_ok ho k)]
  constructor
  · rintro ⟨x, hx, rfl, rfl⟩
    obtain ⟨h1, h2⟩ := (mem_del ho).1 hx
    rw [if_neg h2]; exact (get_iff ho).2 ⟨x, h1, rfl, rfl⟩
  · intro h
    by_cases e : k' = k
    · rw [if_pos e] at h; cases h
    · rw [if_neg e] at h
      obtain ⟨x, hx, h3, h4⟩ := (get_iff ho).1 h
      exact ⟨x, (mem_del ho).2 ⟨hx, fun e2 => e (h3.symm.trans e2)⟩, h3, h4⟩
/-! ### A loop over all of them -/
structure Seen (l s : List (IE β)) : Prop where
  nodup : s.Nodup
  sub : ∀ x ∈ s, x ∈ l
theorem Seen.le {l s : List (IE β)} (h : Seen l s) : s.length ≤ l.length := h.nodup.length_le_of_subset fun x hx => h.sub x hx
theorem Seen.snoc {l s : List (IE β)} (h : Seen l s) {x : IE β} (hx : x ∈ l) (hn : x ∉ s) : Seen l (s ++ [x]) := by
  refine ⟨?_, fun y hy => ?_⟩
  · rw [List.nodup_append]
    exact ⟨h.nodup, by simp, fun a ha b hb e => hn (by rw [← List.mem_singleton.1 hb, ← e]; exact ha)⟩
  · rcases List.mem_append.1 hy with hy | hy
    · exact h.sub y hy
    · rw [List.mem_singleton.1 hy]; exact hx
theorem Seen.perm {clock : Nat} {l s : List (IE β)} (h : Seen l s) (ho : Ok clock l) (hall : ∀ x ∈ l, ∃ y ∈ s, y.born = x.born) : s.Perm l := by
  have hl : l.Nodup := by
    have := ho.borns
    unfold List.Nodup at this ⊢
    rw [List.pairwise_map] at this
    exact this.imp fun h e => h (by rw [e])
  refine (List.perm_ext_iff_of_nodup h.nodup hl).2 fun x => ⟨fun hx => h.sub x hx, fun hx => ?_⟩
  obtain ⟨y, hy, e⟩ := hall x hx
  rw [← map_inj_mem ho.borns (h.sub y hy) hx e]; exact hy
end IE

end Go.Proofs.Ytdfocmmajngelaa.Ax
