/- Arguments that came in as data, over values without memory, where each text and each slice is within the form's reach: as AxX, and their lengths are bounded. No program is named here. -/
import Derived.Test.YtofkddajlgebjaaGreatQAxSb
import Derived.Test.YtofkddajlgebjaaGreatQAxMc
import Derived.Test.YtofkddajlgebjaaGreatQElems
import Derived.SizedLaws
/- The control of a function over values without memory: what follows from what it does ('xwp'); a function's contract out of it. No program is named here. -/
namespace Go.Proofs.YtofkddajlgebjaaGreat.Ax
open Go.RowKit Go By
set_option linter.unusedVariables false
set_option linter.unusedSimpArgs false

/-- A function's text over values without memory. -/
inductive XCode where
  | skip
  | ops (xs : List XOper)
  | draws (t : XTree)
  | seq (a b : XCode)
  | cond (x : Operand) (a b : XCode)
  | block (id : Nat) (a : XCode)
  | loop (a : XCode)
  | exit (id : Nat)
  | ret
  /-- A loop over a function. -/
  | range (x : Operand) (ps : List Nat) (a b : XCode)
  /-- What is not needed any more may be forgotten here. -/
  | cut (a : XCode)
  /-- A place to stop at. -/
  | mark (a : XCode)
  /-- A loop over a map goes on, or is over; what follows. -/
  | nexts (d : Option Nat) (x : Operand) (xs : List XOper)
  /-- The slice in slot t is handed over in slot d, and its elements are turned in place. -/
  | sortr (t d : Nat) (e : Option Nat) (g : FuncId)
  /-- .. by a function that is made in slot d2 and handed beside it. -/
  | sortf (t d : Nat) (x : XOp) (d2 : Nat) (e : Option Nat) (g : FuncId)
/-- Without the places where anything may be forgotten. -/
def XCode.strip : XCode → XCode
  | .seq a b => .seq a.strip b.strip
  | .cond x a b => .cond x a.strip b.strip
  | .block id a => .block id a.strip
  | .loop a => .loop a.strip
  | .range x ps a b => .range x ps a.strip b.strip
  | .cut a => a.strip
  | .mark a => a.strip
  | x => x
/-- No loop over a function within a round. -/
def XCode.okIn (rr : Option Nat) : XCode → Prop
  | .seq a b => a.okIn rr ∧ b.okIn rr
  | .cond _ a b => a.okIn rr ∧ b.okIn rr
  | .block _ a => a.okIn rr
  | .loop a => a.okIn rr
  | .cut a => a.okIn rr
  | .mark a => a.okIn rr
  | .range _ _ _ _ => rr = none
  | _ => True
theorem XCode.okIn_none : ∀ x : XCode, x.okIn none
  | .skip | .ops _ | .draws _ | .exit _ | .ret | .nexts .. | .sortr .. | .sortf .. => trivial
  | .range _ _ _ _ => rfl
  | .seq a b => ⟨okIn_none a, okIn_none b⟩
  | .cond _ a b => ⟨okIn_none a, okIn_none b⟩
  | .block _ a => okIn_none a
  | .loop a => okIn_none a
  | .cut a => okIn_none a
  | .mark a => okIn_none a
def cnext (P : Program) (N : Nat) (ops : Array Oper) : Option XCode :=
  match ops.toList with
  | o :: r => match o.op with
    | .next x false => if o.guard.isNone = true ∧ fitsAll N o = true then match r.mapM (cooper P N ops) with
      | some xs => some (.nexts o.dst x xs)
      | none => none
      else none
    | _ => none
  | [] => none
def okDst (N t : Nat) : Option Nat → Bool
  | some e => decide (e < N) && decide (e ≠ t)
  | none => true
def csort (P : Program) (N : Nat) (ops : Array Oper) : Option XCode :=
  match ops.toList with
  | [p, q] => match p.op, p.dst, q.op with
    | .move (.tmp t), some d, .call c => match c.callee, c.args.toList with
      | .value (.func g), [.tmp d'] => if (sortsB P g && decide (d' = d) && decide (t ≠ d) && decide (t < N) && decide (d < N) && p.guard.isNone && q.guard.isNone && okDst N t q.dst) = true then some (.sortr t d q.dst g) else none
      | _, _ => none
    | _, _, _ => none
  | _ => none
def csortf (P : Program) (N : Nat) (ops : Array Oper) : Option XCode :=
  match ops.toList with
  | [p, y, q] => match p.op, p.dst, cop P y.op, y.dst, q.op with
    | .move (.tmp t), some d, some x, some d2, .call c => match c.callee, c.args.toList with
      | .value (.func g), [.tmp d', .tmp d2'] => if (sortsC P g && x.isVal && fitsAll N y && decide (d' = d) && decide (d2' = d2) && decide (d ≠ d2) && decide (t ≠ d) && decide (t ≠ d2) && decide (t < N) && decide (d < N) && decide (d2 < N) && p.guard.isNone && y.guard.isNone && q.guard.isNone && okDst N t q.dst) = true then some (.sortf t d x d2 q.dst g) else none
      | _, _ => none
    | _, _, _, _, _ => none
  | _ => none
def special (P : Program) (N : Nat) (ops : Array Oper) : Option XCode :=
  match cnext P N ops with
  | some x => some x
  | none => match csort P N ops with
    | some x => some x
    | none => csortf P N ops
def ccode (P : Program) (N : Nat) : Code → Option XCode
  | .skip => some .skip
  | .region _ ops false => match special P N ops with
    | some x => some x
    | none => (cops P N ops ops.toList).map .ops
  | .region _ ops true => if Region.noSelect ops = true ∧ noDefer ops = true then (ctree P N ops ops.size (Array.replicate ops.size false)).map .draws else none
  | .seq a b => match ccode P N a, ccode P N b with
    | some x, some y => some (.seq x y)
    | _, _ => none
  | .cond x a b => if fitsO N x = true then match ccode P N a, ccode P N b with
    | some y, some z => some (.cond x y z)
    | _, _ => none
    else none
  | .block id a => (ccode P N a).map (.block id)
  | .loop a => (ccode P N a).map .loop
  | .exit id => some (.exit id)
  | .scope a => ccode P N a
  | .label _ => some .skip
  | .ret => some .ret
  | .rangeFunc g ps a c => if fitsO N g = true ∧ nodupB ps.toList = true ∧ ps.toList.all (fun t => decide (t < N)) = true then match ccode P N a, ccode P N c with
    | some x, some y => some (.range g ps.toList x y)
    | _, _ => none
    else none
  | _ => none

inductive XExit where
  | normal
  | exit (id : Nat)
  | ret
def XExit.then (K' : St → Prop) (K : XExit → St → Prop) : XExit → St → Prop
  | .normal, s => K' s
  | e, s => K e s
def XExit.inBlock (id : Nat) (K : XExit → St → Prop) : XExit → St → Prop
  | .exit i, s => if i = id then K .normal s else K (.exit i) s
  | e, s => K e s
def xcond (v : AV) (A B : Prop) : Prop :=
  match v with
  | .v (.bool c) => (c = true → A) ∧ (c = false → B)
  | _ => False
def XExit.code : XExit → Code
  | .normal => .skip
  | .exit id => .exit id
  | .ret => .ret
/-- How a round may end: the loop's own variable is number i; it is left then, or it goes on. -/
def rnd (i n : Nat) (stop : Bool) (e : XExit) (h' : List (List AV)) (wr : List Nat) (e' : XExit) (s : St) : Prop := e' = (if stop = true then e else .normal) ∧ s.heap[i]? = some (lstate true false) ∧ stays n h' wr (s.turn i false stop)
/-- Elements are turned in place: what is known behind it. -/
def xsorted (P : Program) (m : Frm) (t d : Nat) (e : Option Nat) (g : FuncId) (s : St) (K : St → Prop) : Prop :=
  ∃ (us us' : List Value) (k : Nat) (nul : Option Bool) (room : Room), s.look t = .sl k (vE us) nul room ∧ ((k = 1 ∧ ∃ c, room = .own c ∧ c.isNew = true) ∨ nul = some true) ∧ InPlace P g us us' ∧ m.plain ∧ (∀ i ∈ s.wr, m.h.length ≤ i) ∧ K (s.sorted m.h t d e (.sl 1 (vE us') nul (.own (.new t))))
/-- .. by a function that is handed beside it. -/
def xsortedF (P : Program) (m : Frm) (t d : Nat) (x : XOp) (d2 : Nat) (e : Option Nat) (g : FuncId) (s : St) (K : St → Prop) : Prop :=
  ∃ (us us' : List Value) (k : Nat) (nul : Option Bool) (room : Room), s.look t = .sl k (vE us) nul room ∧ ((k = 1 ∧ ∃ c, room = .own c ∧ c.isNew = true) ∨ nul = some true) ∧ (xval (s.put d .any) x).ok ∧ InPlaceC P g us us' (xval (s.put d .any) x).val s.heap ∧ m.plain ∧ (∀ i ∈ s.wr, m.h.length ≤ i) ∧ K (s.sortedF m.h t d d2 e (.sl 1 (vE us') nul (.own (.new t))))

def xwp (P : Program) (m : Frm) : XCode → St → (XExit → St → Prop) → Prop
  | .skip, s, K => K .normal s
  | .ops xs, s, K => xops P xs s [] fun s' _ => K .normal s'
  | .draws t, s, K => xtree P t s [] (K .normal)
  | .seq a b, s, K => xwp P m a s (XExit.then (fun s' => xwp P m b s' K) K)
  | .cond x a b, s, K => xcond (s.get x) (xwp P m a s K) (xwp P m b s K)
  | .block id a, s, K => xwp P m a s (XExit.inBlock id K)
  | .loop a, s, K => ∃ (D : Type) (inv : D → St) (μ : D → Nat), (∃ d, Leq m.h.length s (inv d)) ∧ ∀ d, xwp P m a (inv d) (XExit.then (fun s' => ∃ d', μ d' < μ d ∧ Leq m.h.length s' (inv d')) K)
  | .exit id, s, K => K (.exit id) s
  | .ret, s, K => K .ret s
  | .range x ps a b, s, K => (∀ l, a.okIn (some l)) ∧ (∀ l, b.okIn (some l)) ∧ ∃ (g : FuncId) (cap : List AV) (n : Nat) (xs : Nat → List AV) (all : Bool) (R : List (List AV) → Prop) (e : XExit) (H : Nat → List (List AV)) (wr : List Nat) (h3 : List (List AV)) (E : Nat → List (List AV)),
      s.get x = .fn (.func g) [] cap ∧ (∀ y ∈ cap, y.idOf = none) ∧ IterE P g cap n xs all R E ∧ H 0 = s.heap ++ [lstate false false] ∧ (∀ j, j ≤ n → R (H j)) ∧
      (∀ j, j < n → (xs j).length = ps.length ∧ (∀ y ∈ xs j, y.idOf = none) ∧ (H j ++ E j)[s.heap.length]? = some (lstate false false) ∧
        xwp P ⟨H j ++ E j, xs j⟩ a (s.round ps (xs j) (H j ++ E j)) (XExit.then (fun s1 => s1.heap[s.heap.length]? = some (lstate false false) ∧ xwp P ⟨H j ++ E j, xs j⟩ b (s1.turn s.heap.length true false) (rnd s.heap.length (H j ++ E j).length (!all && j + 1 == n) e (H (j + 1) ++ E j) wr)) (fun _ _ => False))) ∧
      H n = h3 ++ [lstate false !all] ∧ h3.length = s.heap.length ∧ ltLL s.heap.length h3 ∧ (all = true → K .normal ⟨s.env, killE (killedBy []) s.own, h3, wr ++ s.wr⟩) ∧ (all = false → e ≠ .normal ∧ K e ⟨s.env, killE (killedBy []) s.own, h3, wr ++ s.wr⟩)
  | .cut a, s, K => ∃ s2, LeqF m.h.length s s2 ∧ xwp P m a s2 K
  | .mark a, s, K => xwp P m a s K
  | .nexts d x xs, s, K => xnext s d (s.get x) fun s' => xops P xs s' [] fun s' _ => K .normal s'
  | .sortr t d e g, s, K => xsorted P m t d e g s (K .normal)
  | .sortf t d x d2 e g, s, K => xsortedF P m t d x d2 e g s (K .normal)

def post (C : Ctx) (N : Nat) (K : XExit → St → Prop) : Exit → Act → World → Prop
  | .normal, a, w => ∃ s G cls, Rel C N G cls s a w ∧ K .normal s
  | .exit id, a, w => ∃ s G cls, Rel C N G cls s a w ∧ K (.exit id) s
  | .ret, a, w => ∃ s G cls, Rel C N G cls s a w ∧ K .ret s
  | _, _, _ => False
theorem least {p : Nat → Prop} (h : ∃ n, p n) : ∃ n, p n ∧ ∀ k, p k → n ≤ k := by
  obtain ⟨n, hn⟩ := h
  induction n using Nat.strongRecOn with
  | _ n ih =>
    by_cases hk : ∃ k, k < n ∧ p k
    · obtain ⟨k, h1, h2⟩ := hk; exact ih k h1 h2
    · exact ⟨n, hn, fun k h2 => Nat.le_of_not_lt fun h1 => hk ⟨k, h1, h2⟩⟩
section
variable {P : Program} {C : Ctx} {N m : Nat}
/-- A text without what stands around it and does nothing. -/
def Code.bare : Code → Bool
  | .scope _ => false
  | _ => true
theorem unscope {rr : Option Nat} : ∀ (c : Code), ∃ d : Code, Code.bare d = true ∧ ccode P N c = ccode P N d ∧ ∀ (K : XExit → St → Prop) (a : Act) (w : World), d.wpIn (Fr rr) 0 P (post C N K) a w → c.wpIn (Fr rr) 0 P (post C N K) a w
  | .scope c => by
    obtain ⟨d, h1, h2, h3⟩ := unscope (rr := rr) c
    refine ⟨d, h1, by rw [← h2]; rfl, fun K a w h => ?_⟩
    refine wpIn_scope_straight (wpIn_mono (h3 K a w h) fun e a' w' hh => ?_)
    cases e with
    | goto l => exact hh
    | _ => exact hh
  | .skip => ⟨_, rfl, rfl, fun _ _ _ h => h⟩
  | .region _ _ _ => ⟨_, rfl, rfl, fun _ _ _ h => h⟩
  | .seq _ _ => ⟨_, rfl, rfl, fun _ _ _ h => h⟩
  | .cond _ _ _ => ⟨_, rfl, rfl, fun _ _ _ h => h⟩
  | .block _ _ => ⟨_, rfl, rfl, fun _ _ _ h => h⟩
  | .loop _ => ⟨_, rfl, rfl, fun _ _ _ h => h⟩
  | .exit _ => ⟨_, rfl, rfl, fun _ _ _ h => h⟩
  | .label _ => ⟨_, rfl, rfl, fun _ _ _ h => h⟩
  | .ret => ⟨_, rfl, rfl, fun _ _ _ h => h⟩
  | .goto _ => ⟨_, rfl, rfl, fun _ _ _ h => h⟩
  | .refuse _ => ⟨_, rfl, rfl, fun _ _ _ h => h⟩
  | .rangeFunc .. => ⟨_, rfl, rfl, fun _ _ _ h => h⟩
theorem ccode_seq {c d : Code} {x : XCode} (h : ccode P N (.seq c d) = some x) : ∃ y z, ccode P N c = some y ∧ ccode P N d = some z ∧ x = .seq y z := by
  unfold ccode at h
  split at h
  · rename_i y z hy hz; injection h with h; exact ⟨y, z, hy, hz, h.symm⟩
  · cases h
theorem ccode_cond {y : Operand} {c d : Code} {x : XCode} (h : ccode P N (.cond y c d) = some x) : ∃ p q, fitsO N y = true ∧ ccode P N c = some p ∧ ccode P N d = some q ∧ x = .cond y p q := by
  unfold ccode at h
  split at h
  · rename_i hf
    split at h
    · rename_i p q hp hq; injection h with h; exact ⟨p, q, hf, hp, hq, h.symm⟩
    · cases h
  · cases h
theorem ccode_block {id : Nat} {c : Code} {x : XCode} (h : ccode P N (.block id c) = some x) : ∃ y, ccode P N c = some y ∧ x = .block id y := by
  unfold ccode at h
  cases hy : ccode P N c with
  | none => rw [hy] at h; cases h
  | some y => rw [hy] at h; injection h with h; exact ⟨y, rfl, h.symm⟩
theorem ccode_loop {c : Code} {x : XCode} (h : ccode P N (.loop c) = some x) : ∃ y, ccode P N c = some y ∧ x = .loop y := by
  unfold ccode at h
  cases hy : ccode P N c with
  | none => rw [hy] at h; cases h
  | some y => rw [hy] at h; injection h with h; exact ⟨y, rfl, h.symm⟩
theorem ccode_range {g : Operand} {ps : Array Tmp} {c d : Code} {x : XCode} (h : ccode P N (.rangeFunc g ps c d) = some x) : ∃ y z, fitsO N g = true ∧ nodupB ps.toList = true ∧ (∀ t ∈ ps.toList, t < N) ∧ ccode P N c = some y ∧ ccode P N d = some z ∧ x = .range g ps.toList y z := by
  unfold ccode at h
  split at h
  · rename_i hf
    split at h
    · rename_i p q hp hq; injection h with h; exact ⟨p, q, hf.1, hf.2.1, fun t ht => by simpa using List.all_eq_true.1 hf.2.2 t ht, hp, hq, h.symm⟩
    · cases h
  · cases h
/-- What a region is that begins with a step of a loop over a map. -/
def IsNext (P : Program) (N : Nat) (ops : Array Oper) (d : Option Nat) (y : Operand) (xs : List XOper) : Prop :=
  ∃ o r, ops.toList = o :: r ∧ o.op = .next y false ∧ o.guard = none ∧ fitsAll N o = true ∧ o.dst = d ∧ r.mapM (cooper P N ops) = some xs
def IsSort (P : Program) (N : Nat) (ops : Array Oper) (t d : Nat) (e : Option Nat) (g : FuncId) : Prop :=
  ∃ p q ts, ops.toList = [p, q] ∧ p.op = .move (.tmp t) ∧ p.dst = some d ∧ p.guard = none ∧ q.op = .call { callee := .value (.func g), args := #[.tmp d], argTypes := ts } ∧ q.dst = e ∧ q.guard = none ∧ t < N ∧ d < N ∧ (∀ x, e = some x → x < N) ∧ t ≠ d ∧ e ≠ some t
def IsSortF (P : Program) (N : Nat) (ops : Array Oper) (t d : Nat) (x : XOp) (d2 : Nat) (e : Option Nat) (g : FuncId) : Prop :=
  ∃ p y q ts, ops.toList = [p, y, q] ∧ (p.op = .move (.tmp t) ∧ p.dst = some d ∧ p.guard = none) ∧ (cop P y.op = some x ∧ x.isVal = true ∧ fitsAll N y = true ∧ y.dst = some d2 ∧ y.guard = none) ∧ (q.op = .call { callee := .value (.func g), args := #[.tmp d, .tmp d2], argTypes := ts } ∧ q.dst = e ∧ q.guard = none) ∧ t < N ∧ d < N ∧ d2 < N ∧ (∀ x, e = some x → x < N) ∧ d ≠ d2 ∧ t ≠ d ∧ t ≠ d2 ∧ e ≠ some t
theorem isNone_of {α : Type} {o : Option α} (h : o.isNone = true) : o = none := by cases o with | none => rfl | some _ => cases h
theorem special_spec {ops : Array Oper} {x : XCode} (h : special P N ops = some x) : (∃ d y xs, IsNext P N ops d y xs ∧ x = .nexts d y xs) ∨ (∃ t d e g, IsSort P N ops t d e g ∧ x = .sortr t d e g) ∨ ∃ t d y d2 e g, IsSortF P N ops t d y d2 e g ∧ x = .sortf t d y d2 e g := by
  unfold special at h
  split at h
  · rename_i z hz
    injection h with h; subst h
    left
    unfold cnext at hz
    split at hz
    · rename_i o r hl
      split at hz
      · rename_i y ho
        split at hz
        · rename_i hg
          split at hz
          · rename_i xs hxs
            injection hz with hz
            exact ⟨_, _, _, ⟨o, r, hl, ho, isNone_of hg.1, hg.2, rfl, hxs⟩, hz.symm⟩
          · cases hz
        · cases hz
      · cases hz
    · cases hz
  · right
    split at h
    · rename_i z hz2
      injection h with h; subst h
      left
      have h := hz2
      unfold csort at h
      split at h
      · rename_i p q hl
        split at h
        · rename_i t d c hp hd hq
          split at h
          · rename_i g d' hcal hargs
            split at h
            · rename_i hcond
              injection h with h
              simp only [Bool.and_eq_true, decide_eq_true_eq] at hcond
              obtain ⟨⟨⟨⟨⟨⟨⟨_, h2⟩, h3⟩, h4⟩, h5⟩, h6⟩, h7⟩, h8⟩ := hcond
              subst h2
              have e : q.op = .call { callee := .value (.func g), args := #[.tmp d'], argTypes := c.argTypes } := by
                rw [hq]
                obtain ⟨cal, args, ts'⟩ := c
                congr 1
                simp only at hcal hargs
                subst hcal
                rw [← Array.toArray_toList (xs := args), hargs]
              refine ⟨t, d', q.dst, g, ⟨p, q, c.argTypes, hl, hp, hd, isNone_of h6, e, rfl, isNone_of h7, h4, h5, fun x hx => ?_, h3, fun hx => ?_⟩, h.symm⟩
              · rw [hx] at h8; simp [okDst] at h8; exact h8.1
              · rw [hx] at h8; simp [okDst] at h8
            · cases h
          · cases h
        · cases h
      · cases h
    · right
      unfold csortf at h
      split at h
      · rename_i p y q hl
        split at h
        · rename_i t d x2 d2 c hp hd hx hd2 hq
          split at h
          · rename_i g d' d2' hcal hargs
            split at h
            · rename_i hcond
              injection h with h
              simp only [Bool.and_eq_true, decide_eq_true_eq] at hcond
              obtain ⟨⟨⟨⟨⟨⟨⟨⟨⟨⟨⟨⟨⟨⟨_, q1⟩, q2⟩, q3⟩, q4⟩, q5⟩, q6⟩, q7⟩, q8⟩, q9⟩, q10⟩, q11⟩, q12⟩, q13⟩, q14⟩ := hcond
              subst q3 q4
              have e : q.op = .call { callee := .value (.func g), args := #[.tmp d', .tmp d2'], argTypes := c.argTypes } := by
                rw [hq]
                obtain ⟨cal, args, ts'⟩ := c
                congr 1
                simp only at hcal hargs
                subst hcal
                rw [← Array.toArray_toList (xs := args), hargs]
              refine ⟨t, d', x2, d2', q.dst, g, ⟨p, y, q, c.argTypes, hl, ⟨hp, hd, isNone_of q11⟩, ⟨hx, q1, q2, hd2, isNone_of q12⟩, ⟨e, rfl, isNone_of q13⟩, q8, q9, q10, fun z hz => ?_, q5, q6, q7, fun hz => ?_⟩, h.symm⟩
              · rw [hz] at q14; simp [okDst] at q14; exact q14.1
              · rw [hz] at q14; simp [okDst] at q14
            · cases h
          · cases h
        · cases h
      · cases h
theorem ccode_region {id : Nat} {ops : Array Oper} {b : Bool} {x : XCode} (h : ccode P N (.region id ops b) = some x) : (b = false ∧ ∃ xs, cops P N ops ops.toList = some xs ∧ x = .ops xs) ∨ (b = true ∧ (Region.noSelect ops = true ∧ noDefer ops = true) ∧ ∃ t, ctree P N ops ops.size (Array.replicate ops.size false) = some t ∧ x = .draws t) ∨
    (b = false ∧ ∃ d y xs, IsNext P N ops d y xs ∧ x = .nexts d y xs) ∨ (b = false ∧ ∃ t d e g, IsSort P N ops t d e g ∧ x = .sortr t d e g) ∨ (b = false ∧ ∃ t d y d2 e g, IsSortF P N ops t d y d2 e g ∧ x = .sortf t d y d2 e g) := by
  cases b with
  | false =>
    unfold ccode at h
    split at h
    · rename_i z hz
      injection h with h; subst h
      rcases special_spec hz with h1 | h1 | h1
      · exact .inr (.inr (.inl ⟨rfl, h1⟩))
      · exact .inr (.inr (.inr (.inl ⟨rfl, h1⟩)))
      · exact .inr (.inr (.inr (.inr ⟨rfl, h1⟩)))
    · cases hx : cops P N ops ops.toList with
      | none => rw [hx] at h; cases h
      | some xs => rw [hx] at h; injection h with h; exact .inl ⟨rfl, xs, rfl, h.symm⟩
  | true =>
    unfold ccode at h
    split at h
    · rename_i hs
      cases hx : ctree P N ops ops.size (Array.replicate ops.size false) with
      | none => rw [hx] at h; cases h
      | some t => rw [hx] at h; injection h with h; exact .inr (.inl ⟨rfl, hs, t, rfl, h.symm⟩)
    · cases h
end
/-- What follows from a text's doing holds of the model's. -/
def Sound (P : Program) (N : Nat) (x : XCode) (c : Code) : Prop := ∀ (rr : Option Nat) (C : Ctx) (m : Frm), C.G0.boxv.length = m.h.length → C.G0.boxes.length = m.h.length → (SeesH C.G0 m.h ∧ (m.plain → ∀ b, ¬ C.T b)) → x.okIn rr → ∀ (s : St) (K : XExit → St → Prop), xwp P m x s K → ∀ (G : Ghost) (cls : Nat → Id) (a : Act) (w : World), Rel C N G cls s a w → c.wpIn (Fr rr) 0 P (post C N K) a w
section
variable {P : Program} {N : Nat}
theorem round_sound {rec : Loop} {xas xbd : XCode} (hsA : Sound P N xas rec.assign) (hsB : Sound P N xbd rec.body) (hoA : ∀ l, xas.okIn (some l)) (hoB : ∀ l, xbd.okIn (some l)) {s : St} (hp : ∀ t, find s.own t = none → (s.look t).idOf = none) (hN : rec.tmps.size = N) {ps : List Nat} (hps : rec.params = ps.toArray) (hnd : nodupB ps = true) (hlt : ∀ p ∈ ps, p < N)
    {args : List AV} (hlen : args.length = ps.length) (hid : ∀ y ∈ args, y.idOf = none) {i : Nat} {h h' : List (List AV)} {wr : List Nat} {stop : Bool} {e : XExit} {c : Code} (hec : stop = true → e ≠ .normal ∧ c = e.code) (hi : h[i]? = some (lstate false false))
    (hx : xwp P ⟨h, args⟩ xas (s.round ps args h) (XExit.then (fun s1 => s1.heap[i]? = some (lstate false false) ∧ xwp P ⟨h, args⟩ xbd (s1.turn i true false) (rnd i h.length stop e h' wr)) (fun _ _ => False))) :
    YContract P i rec c (slotsOf N s) args h (.v (.bool !stop)) h' wr := by
  intro G w vs cls b hy hW hS hvs hown hoh
  obtain ⟨hb, hk, hs⟩ : G.boxes[i]? = some b ∧ G.kinds b = some (.loop rec c) ∧ ∀ j x, (slotsOf N s)[j]? = some x → Sees G x (rec.tmps.toList.getD j undef) := by
    cases hy with | yld _ _ _ _ _ hb hk hl hs => exact ⟨hb, hk, hs⟩
  have hq : w.heap[b]? = some (.loop { rec with state := .ready, pending := none }) := (hW.obj.kbox i b _ _ hb (lstate_vals hS hi) hk).1
  have e1 : G.boxv.length = h.length := hS.1.symm
  have e2 : G.boxes.length = h.length := by rw [← hW.len]; exact e1
  have hR0 := Rel.roundStart (args := args) (ps := ps) (r := rec) hp hN hs hW hS hvs hid hoh hnd hlen.symm hlt
  have hfold : (rec.params.zip vs.toArray).foldl (fun tmps (t, a) => tmps.setIfInBounds t a) rec.tmps = (ps.zip vs).foldl (fun (tmps : Array Value) (p : Nat × Value) => tmps.setIfInBounds p.1 p.2) rec.tmps := by
    rw [hps]; simp [List.zip_toArray]
  have hyr := run_yield (P := P) (args := vs.toArray) hq (by show _ = rec.params.size; rw [hps]; simp [hvs.1, hlen])
  refine ⟨rec.fn, _, rec.assign, rec.body, hyr, roundIn_of_wpIn trivial ?_⟩
  show rec.assign.wpIn (Fr (some b)) 0 P _ { tmps := (rec.params.zip vs.toArray).foldl (fun tmps (t, a) => tmps.setIfInBounds t a) rec.tmps, defers := [] } w
  rw [hfold]
  refine wpIn_mono (hsA (some b) ⟨G, Touched G args vs h⟩ ⟨h, args⟩ e1 e2 ⟨hS, fun hp => touched_plain (m := ⟨h, args⟩) hp⟩ (hoA b) _ _ hx G cls _ w hR0) fun ex a1 w1 hh => ?_
  cases ex with
  | normal =>
    obtain ⟨s1, G1, cls1, hR1, h1i, hxb⟩ := hh
    have hb1 : G1.boxes[i]? = some b := hR1.ext.box_at hb
    have hk1 : G1.kinds b = some (.loop rec c) := (hR1.ext.kindsE hb).trans hk
    have hq1 : w1.heap[b]? = some (.loop { rec with state := .ready, pending := none }) := (hR1.ok.obj.kbox i b _ _ hb1 (lstate_vals hR1.heap h1i) hk1).1
    refine ⟨_, run_beginRound hq1 rfl, ?_⟩
    have hR2 := hR1.turn hb1 hk1 h1i true false
    refine wpIn_mono (hsB (some b) ⟨G, Touched G args vs h⟩ ⟨h, args⟩ e1 e2 ⟨hS, fun hp => touched_plain (m := ⟨h, args⟩) hp⟩ (hoB b) _ _ hxb _ _ _ _ hR2) fun ex a3 w3 hh => ?_
    have fin : ∀ (ex : XExit) (jump : Option Code), (ex = .normal → jump = none) → (ex ≠ .normal → jump = some ex.code) → ∀ (s3 : St) (G3 : Ghost) (cls3 : Nat → Id), Rel ⟨G, Touched G args vs h⟩ N G3 cls3 s3 a3 w3 → rnd i h.length stop e h' wr ex s3 →
        ∃ v w', (Instr.endRound b jump).run P w3 = .ok v w' ∧ ∃ v' G' cls', Ending.returned v = .returned v' ∧ After G (Touched G args vs h) (.v (.bool !stop)) h' wr v' G' cls' w' := by
      intro ex jump hj1 hj2 s3 G3 cls3 hR3 hr
      obtain ⟨he, hbusy, hst⟩ := hr
      have hb3 : G3.boxes[i]? = some b := hR3.ext.box_at hb
      have hk3 : G3.kinds b = some (.loop rec c) := (hR3.ext.kindsE hb).trans hk
      have hq3 : w3.heap[b]? = some (.loop { rec with state := .busy, pending := none }) := (hR3.ok.obj.kbox i b _ _ hb3 (lstate_vals hR3.heap hbusy) hk3).1
      have hR4 := hR3.turn hb3 hk3 hbusy false stop
      obtain ⟨G4, hA⟩ := after_plain e1 e2 hR4 hst (.bool !stop)
      have hend := run_endRound (P := P) jump hq3
      cases stop with
      | true =>
        rw [if_pos rfl] at he
        obtain ⟨hne, hce⟩ := hec rfl
        subst he
        obtain rfl := hj2 hne
        subst hce
        exact ⟨_, _, hend, _, _, _, rfl, hA⟩
      | false =>
        rw [if_neg (by simp)] at he
        obtain rfl := hj1 he
        exact ⟨_, _, hend, _, _, _, rfl, hA⟩
    cases ex with
    | normal => obtain ⟨s3, G3, cls3, hR3, hr⟩ := hh; exact fin .normal none (fun _ => rfl) (fun h => absurd rfl h) s3 G3 cls3 hR3 hr
    | ret => obtain ⟨s3, G3, cls3, hR3, hr⟩ := hh; exact fin .ret (some .ret) (fun h => by cases h) (fun _ => rfl) s3 G3 cls3 hR3 hr
    | exit id => obtain ⟨s3, G3, cls3, hR3, hr⟩ := hh; exact fin (.exit id) (some (.exit id)) (fun h => by cases h) (fun _ => rfl) s3 G3 cls3 hR3 hr
    | _ => exact hh.elim
  | ret => obtain ⟨_, _, _, _, hr⟩ := hh; exact hr.elim
  | exit id => obtain ⟨_, _, _, _, hr⟩ := hh; exact hr.elim
  | _ => exact hh.elim

theorem range_sound {C : Ctx} {m : Frm} {g : Operand} {ps : Array Tmp} {xas xbd : XCode} {c d : Code} (hsA : Sound P N xas c) (hsB : Sound P N xbd d) (hf : fitsO N g = true) (hnd : nodupB ps.toList = true) (hlt : ∀ t ∈ ps.toList, t < N) (hv : C.G0.boxv.length = m.h.length) (hb : C.G0.boxes.length = m.h.length) {s : St} {K : XExit → St → Prop} (h : xwp P m (.range g ps.toList xas xbd) s K)
    {G : Ghost} {cls : Nat → Id} {a : Act} {w : World} (hR : Rel C N G cls s a w) : (Code.rangeFunc g ps c d).wpIn (Fr none) 0 P (post C N K) a w := by
  obtain ⟨hoA, hoB, gf, cap, n, xs, all, R, e, H, wr, h3, E, hg, hcap, hIter, hH0, hRH, hround, hHn, h3l, h3lt, hK1, hK2⟩ := h
  refine wpIn_rangeFunc fun fn _ => ?_
  obtain ⟨rec, hrec⟩ : ∃ rec : Loop, rec = { state := .ready, pending := none, fn := fn, tmps := a.tmps, params := ps, assign := c, body := d, defers := w.heap.size } := ⟨_, rfl⟩
  have hgy := hR.get hf
  rw [hg] at hgy
  obtain ⟨us, vs, hgv, hus, hvl, _, hvs⟩ := hgy.inv_fn
  obtain rfl : us = [] := List.eq_nil_of_length_eq_zero hus
  have hil : s.heap.length = G.boxes.length := hR.heapLen
  have hR1 := hR.enterLoop rec e.code (by rw [hrec]) (by rw [hrec])
  have hE := (hR.ok.enterLoop rec e.code (by rw [hrec]) (by rw [hrec])).2
  have hyl : Sees (G.enterLoop w.heap.size rec e.code) (.yld s.heap.length rec e.code (slotsOf N s)) (.func (.yield (w.heap.size + 1)) #[] #[]) := by
    refine .yld _ _ _ _ _ ?_ ?_ (by rw [hrec]; simp [slotsOf, hR.size]) fun j x hj => ?_
    · show (G.boxes ++ [w.heap.size + 1])[s.heap.length]? = _
      rw [hil]; simp
    · show (if w.heap.size + 1 = w.heap.size + 1 then (some (Kind.loop rec e.code), 0) else G.kr (w.heap.size + 1)).1 = _
      rw [if_pos rfl]
    · have hjN : j < N := by have := (List.getElem?_eq_some_iff.1 hj).1; simpa [slotsOf] using this
      rw [slotsOf_get N s j hjN] at hj
      injection hj with hj; subst hj
      have := (hR.env j hjN).1.unown.ext hE
      have e : rec.tmps.toList.getD j undef = a.tmps.getD j undef := by
        rw [hrec, List.getD_eq_getElem?_getD, Array.getD_eq_getD_getElem?]; simp
      rw [e]; exact this
  have hsl : SeesL (G.enterLoop w.heap.size rec e.code) (.yld s.heap.length rec e.code (slotsOf N s) :: cap) (.func (.yield (w.heap.size + 1)) #[] #[] :: vs) := SeesL.cons hyl ⟨hvl, fun j x hj => (hvs j x hj).ext hE⟩
  have hids : ∀ y ∈ (AV.yld s.heap.length rec e.code (slotsOf N s) :: cap), y.idOf = none := fun y hy => by
    rcases List.mem_cons.1 hy with rfl | hy
    · rfl
    · exact hcap y hy
  have hstop : ∀ j, (!all && j + 1 == n) = true → e ≠ .normal ∧ e.code = e.code := fun j hj => by
    cases all with
    | true => simp at hj
    | false => exact ⟨(hK2 rfl).1, rfl⟩
  have hC : Contract P gf (canon 0 (.yld s.heap.length rec e.code (slotsOf N s) :: cap)) (s.heap ++ [lstate false false]) (.tup []) (H n) wr := by
    rw [canon_plain _ _ hids, ← hH0]
    refine hIter _ _ _ _ H wr hRH fun j hj => ?_
    obtain ⟨r1, r2, r3, r4⟩ := hround j hj
    exact round_sound (rec := rec) (by rw [hrec]; exact hsA) (by rw [hrec]; exact hsB) hoA hoB hR.plain (by rw [hrec]; exact hR.size) (by rw [hrec]) hnd hlt r1 r2 (hstop j) r3 r4
  refine ⟨w.heap.size + 1, [markOf w.heap.size], (w.alloc (.deferred (some []))).alloc (.loop rec), { target := .fn (.func gf) vs.toArray, args := #[.func (.yield (w.heap.size + 1)) #[] #[]] }, (w.alloc (.deferred (some []))).alloc (.loop rec), gf,
    #[.func (.yield (w.heap.size + 1)) #[] #[]] ++ vs.toArray, (w.alloc (.deferred (some []))).alloc (.loop rec), ?_, ?_, fun _ _ => trivial, ?_, fun hh => (by cases hh), ?_⟩
  · rw [hrec]; exact run_enterLoop_outer _ _ _ _ _
  · simp only [resolve, hgv]
    simp [go_sem]
  · simp [invoke, go_sem, run_enter hC.1]
  · have e0 : #[.func (.yield (w.heap.size + 1)) #[] #[]] ++ vs.toArray = (Value.func (.yield (w.heap.size + 1)) #[] #[] :: vs).toArray := by simp
    rw [e0]
    refine (callsIn_fr (call_sound hR1 hsl (fun i x hx => .none _ (hids x (List.mem_of_getElem? hx))) (by rw [idsOf_plain _ hids]; exact List.nodup_nil) hC none (fun x hx => by cases hx))).mono ?_
    rintro _ w3 ⟨v, rfl, G', cls', hR2, hS2⟩
    have hbx : (G.enterLoop w.heap.size rec e.code).boxes[s.heap.length]? = some (w.heap.size + 1) := by
      show (G.boxes ++ [w.heap.size + 1])[s.heap.length]? = _
      rw [hil]; simp
    have hb' : G'.boxes[s.heap.length]? = some (w.heap.size + 1) := hS2.ext.box_at hbx
    have hk' : G'.kinds (w.heap.size + 1) = some (.loop rec e.code) := by
      rw [hS2.ext.kindsE hbx]
      show (if w.heap.size + 1 = w.heap.size + 1 then (some (Kind.loop rec e.code), 0) else G.kr (w.heap.size + 1)).1 = _
      rw [if_pos rfl]
    have hci : (H n)[s.heap.length]? = some (lstate false !all) := by rw [hHn, ← h3l]; simp
    have hkill : killedBy (.yld s.heap.length rec e.code (slotsOf N s) :: cap) = killedBy [] := by
      funext y; unfold killedBy; rw [idsOf_plain _ hids]; rfl
    have htake : (H n).take s.heap.length = h3 := by rw [hHn, ← h3l]; simp
    have hm1 : C.G0.boxes.length ≤ s.heap.length := by
      obtain ⟨more, hmore⟩ := hR.ext.boxes
      rw [hil, hmore]; simp
    have hend : ∀ o : Obj, Rel C N (G'.trunc s.heap.length) cls' ⟨s.env, killE (killedBy []) s.own, h3, wr ++ s.wr⟩ { a with defers := [markOf w.heap.size] ++ a.defers } (w3.putObj (w.heap.size + 1) o) := fun o => by
      have := Rel.leaveLoop hR2 hb' hk' hci (by omega) hm1 (fun t ht => ?_) (by show ltLL _ ((H n).take _); rw [htake]; exact h3lt) o
      · have eS : ({ (({ s with heap := s.heap ++ [lstate false false] } : St).called (.yld s.heap.length rec e.code (slotsOf N s) :: cap) none (.tup []) (H n) wr) with heap := (H n).take s.heap.length } : St) = ⟨s.env, killE (killedBy []) s.own, h3, wr ++ s.wr⟩ := by
          rw [htake]
          show St.mk s.env (killE (killedBy _) s.own) h3 (wr ++ s.wr) = _
          rw [hkill]
        have this' : Rel C N (G'.trunc s.heap.length) cls' ({ (({ s with heap := s.heap ++ [lstate false false] } : St).called (.yld s.heap.length rec e.code (slotsOf N s) :: cap) none (.tup []) (H n) wr) with heap := (H n).take s.heap.length } : St) { a with defers := [markOf w.heap.size] ++ a.defers } (w3.putObj (w.heap.size + 1) o) := this
        rw [eS] at this'
        exact this'
      · have := ((hR.kill (killedBy (.yld s.heap.length rec e.code (slotsOf N s) :: cap))).env t ht).1.lt
        rw [← hil] at this
        exact this
    have hq := (hR2.ok.obj.kbox _ _ _ _ hb' (lstate_vals hR2.heap hci) hk').1
    cases all with
    | true =>
      have hq : w3.heap[w.heap.size + 1]? = some (.loop { rec with state := .ready, pending := none }) := hq
      exact ⟨none, _, run_endLoop hq (by simp), _, _, _, hend _, hK1 rfl⟩
    | false =>
      have hq : w3.heap[w.heap.size + 1]? = some (.loop { rec with state := .done, pending := some e.code }) := hq
      obtain ⟨hne, hKe⟩ := hK2 rfl
      refine ⟨some e.code, _, run_endLoop hq (by simp), ?_⟩
      cases e with
      | normal => exact absurd rfl hne
      | ret => exact wpIn_ret ⟨_, _, _, hend _, hKe⟩
      | exit id => exact wpIn_exit ⟨_, _, _, hend _, hKe⟩
end
section
variable {P : Program} {N : Nat}
theorem xwp_soundG (hm : P.follows .mixedOrders = true) : ∀ (x : XCode) (c : Code), ccode P N c = some x.strip → Sound P N x c := by
  intro x
  induction x with
  | cut y ih =>
    intro c hc rr C m hv hb hB hok s K h G cls a w hR
    obtain ⟨s2, h1, h2⟩ := h
    obtain ⟨G2, hR2⟩ := h1.rel hv hb hR
    exact ih c hc rr C m hv hb hB hok s2 K h2 G2 cls a w hR2
  | mark y ih => intro c hc rr C m hv hb hB hok s K h G cls a w hR; exact ih c hc rr C m hv hb hB hok s K h G cls a w hR
  | skip =>
    intro c0 hc rr C m hv hb hB hok s K h G cls a w hR
    obtain ⟨c, hbare, hcc, lift⟩ := unscope (P := P) (C := C) (N := N) (rr := rr) c0
    rw [hcc] at hc
    apply lift
    cases c with
    | skip => exact wpIn_skip ⟨s, G, cls, hR, h⟩
    | label l => exact wpIn_label ⟨s, G, cls, hR, h⟩
    | scope c => cases hbare
    | region i o b => rcases ccode_region hc with ⟨_, xs, _, e⟩ | ⟨_, _, t, _, e⟩ | ⟨_, _, _, _, _, e⟩ | ⟨_, _, _, _, _, _, e⟩ | ⟨_, _, _, _, _, _, _, _, e⟩ <;> cases e
    | seq c d => obtain ⟨_, _, _, _, e⟩ := ccode_seq hc; cases e
    | cond y c d => obtain ⟨_, _, _, _, _, e⟩ := ccode_cond hc; cases e
    | block i c => obtain ⟨_, _, e⟩ := ccode_block hc; cases e
    | loop c => obtain ⟨_, _, e⟩ := ccode_loop hc; cases e
    | rangeFunc g ps c d => obtain ⟨_, _, _, _, _, _, _, e⟩ := ccode_range hc; cases e
    | _ => cases hc
  | exit id =>
    intro c0 hc rr C m hv hb hB hok s K h G cls a w hR
    obtain ⟨c, hbare, hcc, lift⟩ := unscope (P := P) (C := C) (N := N) (rr := rr) c0
    rw [hcc] at hc
    apply lift
    cases c with
    | exit i =>
      have e : i = id := by have := hc; unfold ccode XCode.strip at this; injection this with this; injection this
      subst e
      exact wpIn_exit ⟨s, G, cls, hR, h⟩
    | scope c => cases hbare
    | region i o b => rcases ccode_region hc with ⟨_, xs, _, e⟩ | ⟨_, _, t, _, e⟩ | ⟨_, _, _, _, _, e⟩ | ⟨_, _, _, _, _, _, e⟩ | ⟨_, _, _, _, _, _, _, _, e⟩ <;> cases e
    | seq c d => obtain ⟨_, _, _, _, e⟩ := ccode_seq hc; cases e
    | cond y c d => obtain ⟨_, _, _, _, _, e⟩ := ccode_cond hc; cases e
    | block i c => obtain ⟨_, _, e⟩ := ccode_block hc; cases e
    | loop c => obtain ⟨_, _, e⟩ := ccode_loop hc; cases e
    | rangeFunc g ps c d => obtain ⟨_, _, _, _, _, _, _, e⟩ := ccode_range hc; cases e
    | _ => cases hc
  | ret =>
    intro c0 hc rr C m hv hb hB hok s K h G cls a w hR
    obtain ⟨c, hbare, hcc, lift⟩ := unscope (P := P) (C := C) (N := N) (rr := rr) c0
    rw [hcc] at hc
    apply lift
    cases c with
    | ret => exact wpIn_ret ⟨s, G, cls, hR, h⟩
    | scope c => cases hbare
    | region i o b => rcases ccode_region hc with ⟨_, xs, _, e⟩ | ⟨_, _, t, _, e⟩ | ⟨_, _, _, _, _, e⟩ | ⟨_, _, _, _, _, _, e⟩ | ⟨_, _, _, _, _, _, _, _, e⟩ <;> cases e
    | seq c d => obtain ⟨_, _, _, _, e⟩ := ccode_seq hc; cases e
    | cond y c d => obtain ⟨_, _, _, _, _, e⟩ := ccode_cond hc; cases e
    | block i c => obtain ⟨_, _, e⟩ := ccode_block hc; cases e
    | loop c => obtain ⟨_, _, e⟩ := ccode_loop hc; cases e
    | rangeFunc g ps c d => obtain ⟨_, _, _, _, _, _, _, e⟩ := ccode_range hc; cases e
    | _ => cases hc
  | ops xs =>
    intro c0 hc rr C m hv hb hB hok s K h G cls a w hR
    obtain ⟨c, hbare, hcc, lift⟩ := unscope (P := P) (C := C) (N := N) (rr := rr) c0
    rw [hcc] at hc
    apply lift
    cases c with
    | region i ops b =>
      rcases ccode_region hc with ⟨rfl, ys, hx, e⟩ | ⟨_, _, t, _, e⟩ | ⟨_, _, _, _, _, e⟩ | ⟨_, _, _, _, _, _, e⟩ | ⟨_, _, _, _, _, _, _, _, e⟩
      · injection e with e; subst e
        obtain ⟨s', ld', h1, h2⟩ := xops_run xs s [] _ h
        exact wpIn_region_list (plain_ops (C := C) ops h2 _ hx G cls a w hR fun a' w' G' cls' hR' _ => ⟨s', G', cls', hR', h1⟩)
      · cases e
      · cases e
      · cases e
      · cases e
    | scope c => cases hbare
    | seq c d => obtain ⟨_, _, _, _, e⟩ := ccode_seq hc; cases e
    | cond y c d => obtain ⟨_, _, _, _, _, e⟩ := ccode_cond hc; cases e
    | block i c => obtain ⟨_, _, e⟩ := ccode_block hc; cases e
    | loop c => obtain ⟨_, _, e⟩ := ccode_loop hc; cases e
    | rangeFunc g ps c d => obtain ⟨_, _, _, _, _, _, _, e⟩ := ccode_range hc; cases e
    | _ => cases hc
  | draws t =>
    intro c0 hc rr C m hv hb hB hok s K h G cls a w hR
    obtain ⟨c, hbare, hcc, lift⟩ := unscope (P := P) (C := C) (N := N) (rr := rr) c0
    rw [hcc] at hc
    apply lift
    cases c with
    | region i ops b =>
      rcases ccode_region hc with ⟨_, xs, _, e⟩ | ⟨rfl, ⟨hs, hnd⟩, u, hx, e⟩ | ⟨_, _, _, _, _, e⟩ | ⟨_, _, _, _, _, _, e⟩ | ⟨_, _, _, _, _, _, _, _, e⟩
      · cases e
      · injection e with e; subst e
        exact draws_sound hm hs hnd (fun _ _ h => h) hx hR h fun s' G' cls' a' w' h1 h2 => ⟨s', G', cls', h2, h1⟩
      · cases e
      · cases e
      · cases e
    | scope c => cases hbare
    | seq c d => obtain ⟨_, _, _, _, e⟩ := ccode_seq hc; cases e
    | cond y c d => obtain ⟨_, _, _, _, _, e⟩ := ccode_cond hc; cases e
    | block i c => obtain ⟨_, _, e⟩ := ccode_block hc; cases e
    | loop c => obtain ⟨_, _, e⟩ := ccode_loop hc; cases e
    | rangeFunc g ps c d => obtain ⟨_, _, _, _, _, _, _, e⟩ := ccode_range hc; cases e
    | _ => cases hc
  | seq y z ihy ihz =>
    intro c0 hc rr C m hv hb hB hok s K h G cls a w hR
    obtain ⟨c, hbare, hcc, lift⟩ := unscope (P := P) (C := C) (N := N) (rr := rr) c0
    rw [hcc] at hc
    apply lift
    cases c with
    | seq c d =>
      obtain ⟨y', z', hy, hz, e⟩ := ccode_seq hc
      injection e with e1 e2
      subst e1 e2
      refine wpIn_seq (wpIn_mono (ihy c hy rr C m hv hb hB hok.1 s _ h G cls a w hR) fun e a' w' hh => ?_)
      cases e with
      | normal => obtain ⟨s', G', cls', h1, h2⟩ := hh; exact ihz d hz rr C m hv hb hB hok.2 s' K h2 G' cls' a' w' h1
      | _ => exact hh
    | region i o b => rcases ccode_region hc with ⟨_, xs, _, e⟩ | ⟨_, _, t, _, e⟩ | ⟨_, _, _, _, _, e⟩ | ⟨_, _, _, _, _, _, e⟩ | ⟨_, _, _, _, _, _, _, _, e⟩ <;> cases e
    | scope c => cases hbare
    | cond y c d => obtain ⟨_, _, _, _, _, e⟩ := ccode_cond hc; cases e
    | block i c => obtain ⟨_, _, e⟩ := ccode_block hc; cases e
    | loop c => obtain ⟨_, _, e⟩ := ccode_loop hc; cases e
    | rangeFunc g ps c d => obtain ⟨_, _, _, _, _, _, _, e⟩ := ccode_range hc; cases e
    | _ => cases hc
  | cond v p q ihp ihq =>
    intro c0 hc rr C m hv hb hB hok s K h G cls a w hR
    obtain ⟨c, hbare, hcc, lift⟩ := unscope (P := P) (C := C) (N := N) (rr := rr) c0
    rw [hcc] at hc
    apply lift
    cases c with
    | cond y c d =>
      obtain ⟨p', q', hf, hp, hq, e⟩ := ccode_cond hc
      injection e with e1 e2 e3
      subst e1 e2 e3
      unfold xwp xcond at h
      split at h
      · rename_i t ht
        have h1 := hR.get hf
        rw [ht] at h1
        exact wpIn_cond_split h1.inv_v (fun e => ihp c hp rr C m hv hb hB hok.1 s K (h.1 e) G cls a w hR) (fun e => ihq d hq rr C m hv hb hB hok.2 s K (h.2 e) G cls a w hR)
      · exact h.elim
    | region i o b => rcases ccode_region hc with ⟨_, xs, _, e⟩ | ⟨_, _, t, _, e⟩ | ⟨_, _, _, _, _, e⟩ | ⟨_, _, _, _, _, _, e⟩ | ⟨_, _, _, _, _, _, _, _, e⟩ <;> cases e
    | scope c => cases hbare
    | seq c d => obtain ⟨_, _, _, _, e⟩ := ccode_seq hc; cases e
    | block i c => obtain ⟨_, _, e⟩ := ccode_block hc; cases e
    | loop c => obtain ⟨_, _, e⟩ := ccode_loop hc; cases e
    | rangeFunc g ps c d => obtain ⟨_, _, _, _, _, _, _, e⟩ := ccode_range hc; cases e
    | _ => cases hc
  | block id y ih =>
    intro c0 hc rr C m hv hb hB hok s K h G cls a w hR
    obtain ⟨c, hbare, hcc, lift⟩ := unscope (P := P) (C := C) (N := N) (rr := rr) c0
    rw [hcc] at hc
    apply lift
    cases c with
    | block i c =>
      obtain ⟨y', hy, e⟩ := ccode_block hc
      injection e with e1 e2
      subst e1 e2
      refine wpIn_block (wpIn_mono (ih c hy rr C m hv hb hB hok s _ h G cls a w hR) fun e a' w' hh => ?_)
      cases e with
      | exit i =>
        obtain ⟨s', G', cls', h1, h2⟩ := hh
        replace h2 : if i = id then K .normal s' else K (.exit i) s' := h2
        show if i = id then _ else _
        split
        · rename_i e; rw [if_pos e] at h2; exact ⟨s', G', cls', h1, h2⟩
        · rename_i e; rw [if_neg e] at h2; exact ⟨s', G', cls', h1, h2⟩
      | _ => exact hh
    | region i o b => rcases ccode_region hc with ⟨_, xs, _, e⟩ | ⟨_, _, t, _, e⟩ | ⟨_, _, _, _, _, e⟩ | ⟨_, _, _, _, _, _, e⟩ | ⟨_, _, _, _, _, _, _, _, e⟩ <;> cases e
    | scope c => cases hbare
    | seq c d => obtain ⟨_, _, _, _, e⟩ := ccode_seq hc; cases e
    | cond y c d => obtain ⟨_, _, _, _, _, e⟩ := ccode_cond hc; cases e
    | loop c => obtain ⟨_, _, e⟩ := ccode_loop hc; cases e
    | rangeFunc g ps c d => obtain ⟨_, _, _, _, _, _, _, e⟩ := ccode_range hc; cases e
    | _ => cases hc
  | loop y ih =>
    intro c0 hc rr C m hv hb hB hok s K h G cls a w hR
    obtain ⟨c, hbare, hcc, lift⟩ := unscope (P := P) (C := C) (N := N) (rr := rr) c0
    rw [hcc] at hc
    apply lift
    cases c with
    | loop c =>
      obtain ⟨y', hy, e⟩ := ccode_loop hc
      injection e with e1
      subst e1
      obtain ⟨D, inv, μ, ⟨d0, h0⟩, hround⟩ := h
      classical
      obtain ⟨G0, hR0⟩ := h0.rel hv hb hR
      -- the least rank at which the frame and the world may stand
      let I : Act → World → Prop := fun a w => ∃ d G cls, Rel C N G cls (inv d) a w
      let ok : Act → World → Nat → Prop := fun a w n => ∃ d G cls, μ d = n ∧ Rel C N G cls (inv d) a w
      let rank : Act → World → Nat := fun a w => if h : ∃ n, ok a w n then Classical.choose (least h) else 0
      have hrank : ∀ a w, I a w → ok a w (rank a w) := fun a w hI => by
        have hex : ∃ n, ok a w n := by obtain ⟨d, G, cls, hR⟩ := hI; exact ⟨μ d, d, G, cls, rfl, hR⟩
        show ok a w (if h : ∃ n, ok a w n then Classical.choose (least h) else 0)
        rw [dif_pos hex]; exact (Classical.choose_spec (least hex)).1
      have hmin : ∀ a w n, ok a w n → rank a w ≤ n := fun a w n hn => by
        show (if h : ∃ n, ok a w n then Classical.choose (least h) else 0) ≤ n
        rw [dif_pos ⟨n, hn⟩]; exact (Classical.choose_spec (least ⟨n, hn⟩)).2 n hn
      refine wpIn_loop I rank ⟨d0, G0, cls, hR0⟩ fun a w hI => ?_
      obtain ⟨d, G, cls, hd, hR⟩ := hrank a w hI
      refine wpIn_mono (ih c hy rr C m hv hb hB hok (inv d) _ (hround d) G cls a w hR) fun e a' w' hh => ?_
      cases e with
      | normal =>
        obtain ⟨s', G', cls', h1, d', h2, h3⟩ := hh
        obtain ⟨G2, h4⟩ := h3.rel hv hb h1
        refine ⟨⟨d', G2, cls', h4⟩, ?_⟩
        have := hmin a' w' (μ d') ⟨d', G2, cls', rfl, h4⟩
        omega
      | _ => exact hh
    | region i o b => rcases ccode_region hc with ⟨_, xs, _, e⟩ | ⟨_, _, t, _, e⟩ | ⟨_, _, _, _, _, e⟩ | ⟨_, _, _, _, _, _, e⟩ | ⟨_, _, _, _, _, _, _, _, e⟩ <;> cases e
    | scope c => cases hbare
    | seq c d => obtain ⟨_, _, _, _, e⟩ := ccode_seq hc; cases e
    | cond y c d => obtain ⟨_, _, _, _, _, e⟩ := ccode_cond hc; cases e
    | block i c => obtain ⟨_, _, e⟩ := ccode_block hc; cases e
    | rangeFunc g ps c d => obtain ⟨_, _, _, _, _, _, _, e⟩ := ccode_range hc; cases e
    | _ => cases hc
  | range v qs xas xbd iha ihb =>
    intro c0 hc rr C m hv hb hB hok s K h G cls a w hR
    obtain ⟨c, hbare, hcc, lift⟩ := unscope (P := P) (C := C) (N := N) (rr := rr) c0
    rw [hcc] at hc
    apply lift
    cases c with
    | rangeFunc g ps c d =>
      obtain ⟨y, z, hf, hnd, hlt, hy, hz, e⟩ := ccode_range hc
      injection e with e1 e2 e3 e4
      subst e1 e2 e3 e4
      obtain rfl : rr = none := hok
      exact range_sound (iha c hy) (ihb d hz) hf hnd hlt hv hb h hR
    | region i o b => rcases ccode_region hc with ⟨_, xs, _, e⟩ | ⟨_, _, t, _, e⟩ | ⟨_, _, _, _, _, e⟩ | ⟨_, _, _, _, _, _, e⟩ | ⟨_, _, _, _, _, _, _, _, e⟩ <;> cases e
    | scope c => cases hbare
    | seq c d => obtain ⟨_, _, _, _, e⟩ := ccode_seq hc; cases e
    | cond y c d => obtain ⟨_, _, _, _, _, e⟩ := ccode_cond hc; cases e
    | block i c => obtain ⟨_, _, e⟩ := ccode_block hc; cases e
    | loop c => obtain ⟨_, _, e⟩ := ccode_loop hc; cases e
    | _ => cases hc
  | nexts d x xs =>
    intro c0 hc rr C m hv hb hB hok s K h G cls a w hR
    obtain ⟨c, hbare, hcc, lift⟩ := unscope (P := P) (C := C) (N := N) (rr := rr) c0
    rw [hcc] at hc
    apply lift
    cases c with
    | region i ops b =>
      rcases ccode_region hc with ⟨_, xs, _, e⟩ | ⟨_, _, t, _, e⟩ | ⟨rfl, d, y, ys, hN, e⟩ | ⟨rfl, t, d, f, g, hN, e⟩ | ⟨_, _, _, _, _, _, _, _, e⟩
      · cases e
      · cases e
      · injection e with e1 e2 e3
        subst e1 e2 e3
        obtain ⟨o, r, hl, ho, hg, hf, rfl, hr⟩ := hN
        refine wpIn_region_list ?_
        rw [hl]
        unfold wpListIn
        rw [if_pos (by simp [Region.wanted, hg])]
        refine Oper.wpIn_mono (fun a' w' hh => ?_) (oper_in (fun c e => by rw [ho] at e; cases e) (eff_next (Q := post C N K) o _ ho (fun s' => xops P xs s' [] fun s' _ => K .normal s') h hf hR))
        obtain ⟨s1, G1, cls1, hx, hR1⟩ := hh
        obtain ⟨s', ld', h1, h2⟩ := xops_run xs s1 [] _ hx
        exact plain_list (C := C) ops h2 _ hr G1 cls1 a' w' hR1 fun a2 w2 G' cls' hR' _ => ⟨s', G', cls', hR', h1⟩
      · cases e
      · cases e
    | scope c => cases hbare
    | seq c d => obtain ⟨_, _, _, _, e⟩ := ccode_seq hc; cases e
    | cond y c d => obtain ⟨_, _, _, _, _, e⟩ := ccode_cond hc; cases e
    | block i c => obtain ⟨_, _, e⟩ := ccode_block hc; cases e
    | loop c => obtain ⟨_, _, e⟩ := ccode_loop hc; cases e
    | rangeFunc g ps c d => obtain ⟨_, _, _, _, _, _, _, e⟩ := ccode_range hc; cases e
    | _ => cases hc
  | sortr t d e g =>
    intro c0 hc rr C m hv hb hB hok s K h G cls a w hR
    obtain ⟨c, hbare, hcc, lift⟩ := unscope (P := P) (C := C) (N := N) (rr := rr) c0
    rw [hcc] at hc
    apply lift
    cases c with
    | region i ops b =>
      rcases ccode_region hc with ⟨_, xs, _, e0⟩ | ⟨_, _, t, _, e0⟩ | ⟨rfl, d, y, ys, hN, e0⟩ | ⟨rfl, t2, d2, f2, g2, hN, e0⟩ | ⟨_, _, _, _, _, _, _, _, e0⟩
      · cases e0
      · cases e0
      · cases e0
      · injection e0 with e1 e2 e3 e4
        subst e1 e2 e3 e4
        obtain ⟨p, q, ts, hl, hp, hpd, hpg, hq, hqd, hqg, ht, hd, he, htd, hte⟩ := hN
        obtain ⟨us, us', k, nul, room, hlook, hroom, hI, hpl, hwr, hK⟩ := h
        obtain ⟨ad, cap, hval, hcalls⟩ := hR.sorted hv hb hB.1 hB.2 hpl hwr ht hd he htd hte hlook hroom hI
        refine wpIn_region_list ?_
        rw [hl]
        unfold wpListIn
        rw [if_pos (by simp [Region.wanted, hpg])]
        refine oper_in (fun c e => by rw [hp] at e; cases e) ?_
        have hr1 : (execOp a.eval p).run P w = .ok (.value (.slice ad us.length cap)) w := by
          have e1 : a.eval (.tmp t) = .slice ad us.length cap := hval
          unfold execOp; rw [hp]; simp only [e1]; rfl
        unfold Oper.wp
        rw [hr1]
        show wpListIn (Fr rr) 0 P ops (post C N K) [q] (a.put p.dst (.slice ad us.length cap)) w
        rw [hpd]
        unfold wpListIn
        rw [if_pos (by simp [Region.wanted, hqg])]
        refine oper_in (fun c e => by rw [hq] at e; cases e) ?_
        have ev : (a.put (some d) (.slice ad us.length cap)).eval (.tmp d) = .slice ad us.length cap := (tmps_put (by rw [hR.size]; exact hd) _).trans (if_pos rfl)
        have hrun : (execOp (a.put (some d) (.slice ad us.length cap)).eval q).run P w = .ok (.enter g #[.slice ad us.length cap]) w := by
          simp only [execOp, hq, resolve, Deferred.ofValue, Sem.run_bind, Sem.run_pure, Result.andThen_ok, invoke, Array.empty_append, Array.append_empty, List.map_toArray, List.map_cons, List.map_nil, ev]
          exact run_enter hI.1 _ w
        unfold Oper.wp
        rw [hrun]
        refine hcalls.mono fun r w' hh => ?_
        obtain ⟨rfl, hR2⟩ := hh
        obtain ⟨G', cls', hR3⟩ := hR2 (.slice ad us.length cap) (.tuple #[])
        show wpListIn (Fr rr) 0 P ops (post C N K) [] _ w'
        rw [hqd]
        exact ⟨_, G', cls', hR3, hK⟩
      · cases e0
    | scope c => cases hbare
    | seq c d => obtain ⟨_, _, _, _, e⟩ := ccode_seq hc; cases e
    | cond y c d => obtain ⟨_, _, _, _, _, e⟩ := ccode_cond hc; cases e
    | block i c => obtain ⟨_, _, e⟩ := ccode_block hc; cases e
    | loop c => obtain ⟨_, _, e⟩ := ccode_loop hc; cases e
    | rangeFunc g ps c d => obtain ⟨_, _, _, _, _, _, _, e⟩ := ccode_range hc; cases e
    | _ => cases hc
  | sortf t d x d2 e g =>
    intro c0 hc rr C m hv hb hB hok s K h G cls a w hR
    obtain ⟨c, hbare, hcc, lift⟩ := unscope (P := P) (C := C) (N := N) (rr := rr) c0
    rw [hcc] at hc
    apply lift
    cases c with
    | region i ops b =>
      rcases ccode_region hc with ⟨_, xs, _, e0⟩ | ⟨_, _, t, _, e0⟩ | ⟨_, _, _, _, _, e0⟩ | ⟨_, _, _, _, _, _, e0⟩ | ⟨rfl, t2, d2, x2, f2, e2, g2, hN, e0⟩
      · cases e0
      · cases e0
      · cases e0
      · cases e0
      · injection e0 with e1 e2 e3 e4 e5 e6
        subst e1 e2 e3 e4 e5 e6
        obtain ⟨p, y, q, ts, hl, ⟨hp, hpd, hpg⟩, ⟨hy, hyv, hyf, hyd, hyg⟩, ⟨hq, hqd, hqg⟩, ht, hd, hd2, he, hdd, htd, htd2, hte⟩ := hN
        obtain ⟨us, us', k, nul, room, hlook, hroom, hok2, hI, hpl, hwr, hK⟩ := h
        obtain ⟨sv, hsv⟩ : ∃ sv, sv = a.tmps.getD t undef := ⟨_, rfl⟩
        have hR1 := hR.put hd (.any sv) rfl
        obtain ⟨fv, hsee, _, _, hrunY⟩ := val_sound hR1 y x hy hyv hyf hok2
        obtain ⟨ad, cap, hval, hcalls⟩ := hR.sortedA (A := fun v => #[v, fv]) hv hb hB.1 hB.2 hpl hwr ht hlook hroom hI.2.1 hI.2.2.1 fun ad cap hc hx => hI.2.2.2 G w fv ad cap hR.ok hR.heap hsee hc hx
        have hsv2 : sv = .slice ad us.length cap := hsv.trans hval
        refine wpIn_region_list ?_
        rw [hl]
        unfold wpListIn
        rw [if_pos (by simp [Region.wanted, hpg])]
        refine oper_in (fun c e => by rw [hp] at e; cases e) ?_
        have hr1 : (execOp a.eval p).run P w = .ok (.value sv) w := by
          have e1 : a.eval (.tmp t) = sv := hsv.symm
          unfold execOp; rw [hp]; simp only [e1]; rfl
        unfold Oper.wp
        rw [hr1]
        show wpListIn (Fr rr) 0 P ops (post C N K) [y, q] (a.put p.dst sv) w
        rw [hpd]
        unfold wpListIn
        rw [if_pos (by simp [Region.wanted, hyg])]
        refine oper_in (fun c e => by rw [e] at hy; cases hy <;> cases hyv) ?_
        unfold Oper.wp
        rw [hrunY G w (Ext.refl G) hR.ok (fun _ _ => rfl)]
        show wpListIn (Fr rr) 0 P ops (post C N K) [q] ((a.put (some d) sv).put y.dst fv) w
        rw [hyd]
        unfold wpListIn
        rw [if_pos (by simp [Region.wanted, hqg])]
        refine oper_in (fun c e => by rw [hq] at e; cases e) ?_
        have ev1 : ((a.put (some d) sv).put (some d2) fv).eval (.tmp d) = .slice ad us.length cap := by
          refine Eq.trans (tmps_two (a.put (some d) sv) (e := none) fv fv hdd (by simp)) ?_
          exact ((tmps_put (by rw [hR.size]; exact hd) _).trans (if_pos rfl)).trans hsv2
        have ev2 : ((a.put (some d) sv).put (some d2) fv).eval (.tmp d2) = fv := (tmps_put (by rw [hR1.size]; exact hd2) _).trans (if_pos rfl)
        have hrun : (execOp ((a.put (some d) sv).put (some d2) fv).eval q).run P w = .ok (.enter g #[.slice ad us.length cap, fv]) w := by
          simp only [execOp, hq, resolve, Deferred.ofValue, Sem.run_bind, Sem.run_pure, Result.andThen_ok, invoke, Array.empty_append, Array.append_empty, List.map_toArray, List.map_cons, List.map_nil, ev1, ev2]
          exact run_enter hI.1 _ w
        unfold Oper.wp
        rw [hrun]
        refine hcalls.mono fun r w' hh => ?_
        obtain ⟨rfl, hR2⟩ := hh
        obtain ⟨G', cls', hR3⟩ := hR2 _ (((a.put (some d) sv).put (some d2) fv).put e (.tuple #[])) (fun G1 cls1 hR => ((hR.put hd (.any sv) rfl).put hd2 (.any fv) rfl).puts he (o := false) (.any (.tuple #[])) trivial (fun _ => rfl)) ((tmps_two (a.put (some d) sv) fv (.tuple #[]) htd2 hte).trans (tmps_two a (e := none) sv sv htd (by simp)))
        show wpListIn (Fr rr) 0 P ops (post C N K) [] _ w'
        rw [hqd]
        exact ⟨_, G', cls', hR3, hK⟩
    | scope c => cases hbare
    | seq c d => obtain ⟨_, _, _, _, e⟩ := ccode_seq hc; cases e
    | cond y c d => obtain ⟨_, _, _, _, _, e⟩ := ccode_cond hc; cases e
    | block i c => obtain ⟨_, _, e⟩ := ccode_block hc; cases e
    | loop c => obtain ⟨_, _, e⟩ := ccode_loop hc; cases e
    | rangeFunc g ps c d => obtain ⟨_, _, _, _, _, _, _, e⟩ := ccode_range hc; cases e
    | _ => cases hc
theorem xwp_sound {rr : Option Nat} {C : Ctx} {m : Frm} (hm : P.follows .mixedOrders = true) (hv : C.G0.boxv.length = m.h.length) (hb : C.G0.boxes.length = m.h.length) (hB : SeesH C.G0 m.h ∧ (m.plain → ∀ b, ¬ C.T b)) (x : XCode) (hok : x.okIn rr) (c : Code) (hc : ccode P N c = some x.strip) (s : St) (K : XExit → St → Prop) (h : xwp P m x s K) (G : Ghost) (cls : Nat → Id) (a : Act) (w : World) (hR : Rel C N G cls s a w) : c.wpIn (Fr rr) 0 P (post C N K) a w :=
  xwp_soundG hm x c hc rr C m hv hb hB hok s K h G cls a w hR
end
/-- Places on a text's way where anything may be forgotten: behind each part that is marked. -/
def XCode.cuts : List Bool → XCode → XCode
  | true :: r, .seq a b => .mark (.seq a (.cut (XCode.cuts r b)))
  | false :: r, .seq a b => .seq a (XCode.cuts r b)
  | _, c => c
/-- .. and somewhere inside. -/
def XCode.inside (f : XCode → XCode) : List Nat → XCode → XCode
  | [], c => f c
  | 0 :: r, .seq a b => .seq (XCode.inside f r a) b
  | _ :: r, .seq a b => .seq a (XCode.inside f r b)
  | 0 :: r, .cond x a b => .cond x (XCode.inside f r a) b
  | _ :: r, .cond x a b => .cond x a (XCode.inside f r b)
  | _ :: r, .block id a => .block id (XCode.inside f r a)
  | _ :: r, .loop a => .loop (XCode.inside f r a)
  | 0 :: r, .range x ps a b => .range x ps (XCode.inside f r a) b
  | _ :: r, .range x ps a b => .range x ps a (XCode.inside f r b)
  | _ :: r, .cut a => .cut (XCode.inside f r a)
  | _ :: r, .mark a => .mark (XCode.inside f r a)
  | _, c => c
end Go.Proofs.YtofkddajlgebjaaGreat.Ax
/- A function's contract out of what its text does over values without memory. No program is named here. -/
namespace Go.Proofs.YtofkddajlgebjaaGreat.Ax
open Go.RowKit Go By

/-- A result: a slot, a variable. -/
def cres (P : Program) (N : Nat) : ResultVar → Option XOp
  | .tmp t => if t < N then some (.move (.tmp t)) else none
  | .cell t ty => if t < N then copLoad P ty (.tmp t) else none
def resSem (tmps : Array Value) : ResultVar → Sem Value
  | .tmp t => pure (tmps.getD t undef)
  | .cell t ty => do loadVar ty (← asAddr (tmps.getD t undef))
structure XFun where
  n : Nat
  code : XCode
  res : List XOp
def cfun (P : Program) (f : FuncId) : Option XFun :=
  match P.funcs[f]? with
  | some fn => match fn.body with
    | some c => if (fn.name == "runtime.NumGoroutine") = false then
        match ccode P fn.ntmps c, fn.results.toList.mapM (cres P fn.ntmps) with
        | some x, some rs => some ⟨fn.ntmps, x, rs⟩
        | _, _ => none
      else none
    | none => none
  | none => none

def allOk (s : St) : List XOp → Prop
  | [] => True
  | x :: r => (xval s x).ok ∧ allOk s r
/-- What is answered, as it lies. -/
def xres (rs : List XOp) (s : St) : AV :=
  match rs with
  | [x] => (xval s x).val
  | l => .tup (l.map fun x => (xval s x).val.unown)
/-- .. and as it is handed over, where the first m variables stay. -/
def resOf (m : Nat) : AV → AV
  | .sl k es nul (.own c) => match c with
    | .cell i _ => if i < m then .sl k es nul .no else .sl k es nul (.own .res)
    | _ => .sl k es nul (.own .res)
  | a => a
/-- A function may end where it stands: it answers r, and leaves the variables so. -/
def leave (rs : List XOp) (n : Nat) (r : AV) (h' : List (List AV)) (wr : List Nat) (s : St) : Prop :=
  allOk s rs ∧ n ≤ h'.length ∧ h'.length ≤ s.heap.length ∧ LeqV .res (resOf h'.length (xres rs s)) r ∧ r.lt h'.length ∧ leqH 0 (s.heap.take h'.length) h' ∧ ltLL h'.length h' ∧ ∀ i ∈ s.wr, i < n → i ∈ wr
def kret (rs : List XOp) (n : Nat) (r : AV) (h' : List (List AV)) (wr : List Nat) : XExit → St → Prop
  | .exit _, _ => False
  | _, s => leave rs n r h' wr s
def enterL (own : Bool) : Nat → List AV → List (Nat × AV)
  | _, [] => []
  | i, a :: r => bif a.idOf.isSome == own then (i, a) :: enterL own (i + 1) r else enterL own (i + 1) r
/-- Where a function begins. -/
def enter (args : List AV) (h : List (List AV)) : St := ⟨enterL false 0 args, enterL true 0 args, h, []⟩

theorem enterL_find (own : Bool) : ∀ (l : List AV) (i t : Nat) (a : AV), find (enterL own i l) t = some a → i ≤ t ∧ l[t - i]? = some a ∧ a.idOf.isSome = own
  | [], i, t, a, h => by simp [enterL, find] at h
  | x :: l, i, t, a, h => by
    unfold enterL at h
    have rec_ : find (enterL own (i + 1) l) t = some a → i ≤ t ∧ (x :: l)[t - i]? = some a ∧ a.idOf.isSome = own := fun h => by
      obtain ⟨h1, h2, h3⟩ := enterL_find own l (i + 1) t a h
      refine ⟨by omega, ?_, h3⟩
      rw [show t - i = (t - (i + 1)) + 1 by omega]
      simpa using h2
    cases hx : (x.idOf.isSome == own) with
    | true =>
      rw [hx] at h
      simp only [cond_true, find] at h
      split at h
      · rename_i e
        injection h with h; subst h e
        exact ⟨Nat.le_refl _, by simp, by simpa using hx⟩
      · exact rec_ h
    | false => rw [hx] at h; exact rec_ h
theorem enterL_none (own : Bool) : ∀ (l : List AV) (i t : Nat) (a : AV), i ≤ t → l[t - i]? = some a → a.idOf.isSome = own → find (enterL own i l) t = some a
  | [], i, t, a, _, h, _ => by simp at h
  | x :: l, i, t, a, hi, h, ho => by
    unfold enterL
    by_cases e : t = i
    · subst e
      simp at h; subst h
      simp [ho, find]
    · have h2 : l[t - (i + 1)]? = some a := by
        rw [show t - i = (t - (i + 1)) + 1 by omega] at h
        simpa using h
      have := enterL_none own l (i + 1) t a (by omega) h2 ho
      cases hx : (x.idOf.isSome == own) with
      | true => simp only [cond_true, find]; rw [if_neg (by omega)]; exact this
      | false => exact this
theorem look_enter (args : List AV) (h : List (List AV)) (t : Nat) : (enter args h).look t = (match args[t]? with | some a => a | none => .any) := by
  unfold St.look enter
  dsimp only
  cases hT : find (enterL true 0 args) t with
  | some a =>
    obtain ⟨_, h2, _⟩ := enterL_find true args 0 t a hT
    rw [Nat.sub_zero] at h2
    rw [h2]
  | none =>
    dsimp only
    cases hF : find (enterL false 0 args) t with
    | some a =>
      obtain ⟨_, h2, _⟩ := enterL_find false args 0 t a hF
      rw [Nat.sub_zero] at h2
      rw [h2]
    | none =>
      dsimp only
      cases ha : args[t]? with
      | none => rfl
      | some a =>
        exfalso
        cases ho : a.idOf.isSome with
        | true => rw [enterL_none true args 0 t a (Nat.zero_le _) (by simpa using ha) ho] at hT; cases hT
        | false => rw [enterL_none false args 0 t a (Nat.zero_le _) (by simpa using ha) ho] at hF; cases hF

section
variable {P : Program} {C : Ctx} {N : Nat} {G : Ghost} {cls : Nat → Id} {s : St} {a : Act} {w : World}
theorem ptr_of (h : Rel C N G cls s a w) {x : Operand} (hx : fitsO N x = true) {op : XOp} (ho : op = .load1 x ∨ ∃ n, op = .loadN n x) (hok : (xval s op).ok) : ∃ p, a.eval x = .pointer (some p) := by
  have h1 := h.get hx
  have key : (∃ i o, s.get x = .box i o) ∨ ∃ cs, s.get x = .ro cs := by
    rcases ho with rfl | ⟨n, rfl⟩
    · replace hok : (vLoad1 s.heap (s.get x)).ok := hok
      unfold vLoad1 at hok
      split at hok
      · rename_i e; exact .inl ⟨_, _, e⟩
      · rename_i e; exact .inr ⟨_, e⟩
      · exact hok.elim
    · replace hok : (vLoadN s.heap n (s.get x)).ok := hok
      unfold vLoadN at hok
      split at hok
      · rename_i e; exact .inl ⟨_, _, e⟩
      · rename_i e; exact .inr ⟨_, e⟩
      · exact hok.elim
  rcases key with ⟨i, o, e⟩ | ⟨cs, e⟩
  · rw [e] at h1; obtain ⟨b, hb, _⟩ := h1.inv_box; exact ⟨_, hb⟩
  · rw [e] at h1; obtain ⟨b, o, u, hb, _⟩ := h1.inv_ro; exact ⟨_, hb⟩
theorem copLoad_is {ty : TypeId} {x : Operand} {op : XOp} (h : copLoad P ty x = some op) : (op = .load1 x ∨ ∃ n, op = .loadN n x) ∧ op.isVal = true := by
  unfold copLoad at h
  split at h
  · cases hs : szOf P ty with
    | none => rw [hs] at h; cases h
    | some n => rw [hs] at h; injection h with h; subst h; exact ⟨.inr ⟨n, rfl⟩, rfl⟩
  · cases hs : szOf P ty with
    | none => rw [hs] at h; cases h
    | some n => rw [hs] at h; injection h with h; subst h; exact ⟨.inr ⟨n, rfl⟩, rfl⟩
  · injection h with h; subst h; exact ⟨.inl rfl, rfl⟩
  · cases h
/-- One result. -/
theorem res_sound (h : Rel C N G cls s a w) {r : ResultVar} {op : XOp} (hc : cres P N r = some op) (hok : (xval s op).ok) :
    ∃ v, (resSem a.tmps r).run P w = .ok v w ∧ Sees G (xval s op).val v ∧ OwnAt G (Own C cls) (xval s op).val v := by
  cases r with
  | tmp t =>
    replace hc : (if t < N then some (XOp.move (.tmp t)) else none) = some op := hc
    split at hc
    · rename_i ht
      injection hc with hc; subst hc
      exact ⟨_, rfl, h.env t ht⟩
    · cases hc
  | cell t ty =>
    replace hc : (if t < N then copLoad P ty (.tmp t) else none) = some op := hc
    split at hc
    · rename_i ht
      obtain ⟨h1, h2⟩ := copLoad_is hc
      have hfx : fitsO N (.tmp t) = true := by simpa [fitsO] using ht
      obtain ⟨v, h3, h4, _, h6⟩ := val_sound (P := P) h { (default : Oper) with dst := none, op := .load ty (.tmp t) } op hc h2 (by simp [fitsAll, Op.operands, hfx]) hok
      obtain ⟨p, hp⟩ := ptr_of h hfx h1 hok
      have h7 := h6 G w (Ext.refl G) h.ok fun _ _ => rfl
      have hp' : a.tmps.getD t undef = .pointer (some p) := hp
      refine ⟨v, ?_, h3, h4⟩
      simp only [execOp, Instr.loadAt, Instr.sureAddr, hp, Sem.run_bind, Sem.run_pure, Result.andThen_ok] at h7
      unfold resSem
      simp only [hp', asAddr, Sem.run_bind, Sem.run_pure, Result.andThen_ok]
      cases hl : (loadVar ty p).run P w with
      | ok v' w' => rw [hl] at h7; simpa using h7
      | halt x w' => rw [hl] at h7; simp at h7
    · cases hc
theorem ress_sound (h : Rel C N G cls s a w) : ∀ (rs : List ResultVar) (ops : List XOp), rs.mapM (cres P N) = some ops → allOk s ops →
    ∃ vs : List Value, (rs.mapM (resSem a.tmps)).run P w = .ok vs w ∧ vs.length = ops.length ∧ ∀ (j : Nat) (op : XOp), ops[j]? = some op → Sees G (xval s op).val (vs.getD j undef) ∧ OwnAt G (Own C cls) (xval s op).val (vs.getD j undef)
  | [], ops, hc, _ => by
    simp at hc; subst hc
    exact ⟨[], by simp, rfl, fun j op hj => by simp at hj⟩
  | r :: rs, ops, hc, hok => by
    simp only [List.mapM_cons, Option.bind_eq_bind, Option.pure_def] at hc
    cases hr : cres P N r with
    | none => rw [hr] at hc; cases hc
    | some op =>
      cases hrs : rs.mapM (cres P N) with
      | none => rw [hr, hrs] at hc; cases hc
      | some ops' =>
        rw [hr, hrs] at hc
        simp at hc; subst hc
        obtain ⟨v, h1, h2, h3⟩ := res_sound h hr hok.1
        obtain ⟨vs, h4, h5, h6⟩ := ress_sound h rs ops' hrs hok.2
        refine ⟨v :: vs, ?_, by simp [h5], fun j o hj => ?_⟩
        · simp only [List.mapM_cons, Sem.run_bind, h1, Result.andThen_ok, h4, Sem.run_pure]
        · cases j with
          | zero => simp at hj; subst hj; exact ⟨h2, h3⟩
          | succ j => simpa using h6 j o (by simpa using hj)
/-- What is answered. -/
theorem results_sound (h : Rel C N G cls s a w) (fn : Func) (rs : List XOp) (hc : fn.results.toList.mapM (cres P N) = some rs) (hok : allOk s rs) : ∃ v, (results fn a.tmps).run P w = .ok v w ∧ Sees G (xres rs s) v ∧ OwnAt G (Own C cls) (xres rs s) v := by
  obtain ⟨vs, h1, h2, h3⟩ := ress_sound (P := P) h fn.results.toList rs hc hok
  have hrun : (results fn a.tmps).run P w = .ok (if h : vs.toArray.size = 1 then vs.toArray[0] else .tuple vs.toArray) w := by
    show (do let vs ← fn.results.mapM (resSem a.tmps)
             pure (if h : vs.size = 1 then vs[0] else .tuple vs) : Sem Value).run P w = _
    rw [Array.mapM_eq_mapM_toList]
    simp only [Sem.run_bind, Sem.run_map, h1, Result.andThen_ok, Sem.run_pure]
  refine ⟨_, hrun, ?_⟩
  by_cases hl : vs.length = 1
  · obtain ⟨v, rfl⟩ : ∃ v, vs = [v] := List.length_eq_one_iff.1 hl
    obtain ⟨op, rfl⟩ : ∃ op, rs = [op] := List.length_eq_one_iff.1 (by rw [← h2]; rfl)
    exact h3 0 op rfl
  · have hx : xres rs s = .tup (rs.map fun x => (xval s x).val.unown) := by
      unfold xres
      split
      · simp at h2; exact absurd h2 hl
      · rfl
    rw [hx]
    refine ⟨?_, .none _ rfl⟩
    rw [dif_neg (by simpa using hl)]
    refine .tup _ _ (by simpa using h2) fun j c hj => ?_
    rw [List.getElem?_map] at hj
    cases ho : rs[j]? with
    | none => rw [ho] at hj; cases hj
    | some op => rw [ho] at hj; injection hj with hj; subst hj; exact (h3 j op ho).1.unown
end
theorem resOf_cases (m : Nat) (x : AV) : (resOf m x = x ∧ x.idOf = none) ∨ (resOf m x = x.unown ∧ x.idOf ≠ none) ∨ ∃ c, x.idOf = some c ∧ resOf m x = x.relabel .res ∧ ∀ i j, c = .cell i j → m ≤ i := by
  cases x with
  | sl k es nul room =>
    cases room with
    | own c =>
      cases c with
      | cell i j =>
        unfold resOf
        by_cases hi : i < m
        · right; left; simp [hi, AV.unown, AV.idOf]
        · right; right
          refine ⟨_, rfl, by simp [hi, AV.relabel], fun i' j' e => ?_⟩
          injection e with e; omega
      | _ => right; right; exact ⟨_, rfl, rfl, fun i j e => by cases e⟩
    | _ => exact .inl ⟨rfl, rfl⟩
  | _ => exact .inl ⟨rfl, rfl⟩
theorem contract_cut {P : Program} {f : FuncId} {X : XFun} (y : XCode) (hf : cfun P f = some X) (hy : y.strip = X.code) (hm : P.follows .mixedOrders = true) {args : List AV} {h : List (List AV)} {r : AV} {h' : List (List AV)} {wr : List Nat} (ha : args.length ≤ X.n)
    (hx : ltLL h.length h → ltL h.length args → xwp P ⟨h, args⟩ y (enter args h) (kret X.res h.length r h' wr)) : Contract P f args h r h' wr := by
  unfold cfun at hf
  split at hf
  · rename_i fn hfn
    split at hf
    · rename_i c hb
      split at hf
      · rename_i hname
        split at hf
        · rename_i x rs hc hr
          injection hf with hf; subst hf
          refine ⟨⟨fn, hfn, hname, by rw [hb]; rfl⟩, fun G w vs cls hW hS hvs hown hoh => ?_⟩
          have hlen : h.length = G.boxes.length := by rw [hS.1, hW.len]
          have hx := hx (ltLL_of' fun i e he => ltL_of fun j c hj => by
            have hi : i < G.boxv.length := by rw [← hS.1]; exact (List.getElem?_eq_some_iff.1 he).1
            rw [hlen]
            exact ((hS.2 i e _ he (List.getElem?_eq_getElem hi)).2.2 j c hj).lt) (ltL_of fun j c hj => by rw [hlen]; exact (hvs.2 j c hj).lt)
          let C : Ctx := ⟨G, Touched G args vs h⟩
          have hl : vs.length = args.length := hvs.1
          have hR : Rel C fn.ntmps G cls (enter args h) { tmps := vs.toArray ++ Array.replicate (fn.ntmps - vs.toArray.size) undef, defers := [] } w := by
            refine ⟨hW, hS, fun i cs us h1 h2 j c hj => ?_, fun t ht => ?_, fun t ht => ?_, ?_, Marks.none _ _, Ext.refl G, fun _ _ _ => rfl, fun _ _ hb _ => hb⟩
            · obtain ⟨h3, h4⟩ := hoh i cs us h1 h2 j c hj
              exact ⟨h3.imp2 fun b y B hB _ _ hcl => ⟨hcl, .inr (.inr ⟨i, cs, us, j, c, h1, h2, hj, hB⟩)⟩, h4⟩
            · rw [look_enter]
              cases hat : args[t]? with
              | none => exact ⟨.any _, trivial⟩
              | some x =>
                have hlt : t < vs.length := by rw [hl]; exact (List.getElem?_eq_some_iff.1 hat).1
                have e : (vs.toArray ++ Array.replicate (fn.ntmps - vs.toArray.size) undef).getD t undef = vs.getD t undef := by
                  rw [Array.getD_eq_getD_getElem?, Array.getElem?_append_left (by simpa using hlt), List.getD_eq_getElem?_getD]
                  simp
                show Sees G x _ ∧ OwnAt G _ x _
                rw [e]
                exact ⟨hvs.2 t x hat, (hown t x hat).1.imp2 fun b y B hB _ _ hcl => ⟨hcl, .inr (.inl ⟨t, x, hat, hB⟩)⟩⟩
            · rw [look_enter]
              cases hat : args[t]? with
              | none => rfl
              | some x =>
                show x.idOf = none
                cases hi : x.idOf with
                | none => rfl
                | some y =>
                  have := enterL_none true args 0 t x (Nat.zero_le _) (by simpa using hat) (by rw [hi]; rfl)
                  rw [show (enter args h).own = enterL true 0 args from rfl, this] at ht
                  cases ht
            · have : args.length ≤ fn.ntmps := ha
              simp; omega
          refine (callsIn_wide (n := 0)).1 (callsIn_of_wp_marks (F := Fr none) hfn hb trivial (wpIn_mono (xwp_sound (rr := none) (C := C) hm hS.1.symm (by show G.boxes.length = _; rw [← hW.len]; exact hS.1.symm) ⟨hS, fun hp => touched_plain (m := ⟨h, args⟩) hp⟩ y y.okIn_none c (by rw [hy]; exact hc) _ _ hx G cls _ w hR) fun e a' w' hh => ?_))
          have fin0 : ∀ s G' cls' a' w', Rel C fn.ntmps G' cls' s a' w' → leave rs h.length r h' wr s → ∃ v, (results fn a'.tmps).run P w' = .ok v w' ∧ ∃ v' G'' cls'', Ending.returned v = .returned v' ∧ After G (Touched G args vs h) r h' wr v' G'' cls'' w' := by
            intro s G' cls' a' w' hR' hL
            obtain ⟨l1, l2, l3, l4, l5, l6, l7, l8⟩ := hL
            obtain ⟨v, hv, hs, ho⟩ := results_sound (P := P) hR' fn rs hr l1
            refine ⟨v, hv, v, ?_⟩
            -- the variables that stay
            have hq : Leq h.length { s with env := [], own := [] } ⟨[], [], h', wr⟩ := ⟨l2, l3, l6, l7, trivial, trivial, l8⟩
            have hR0 : Rel C fn.ntmps G' cls' { s with env := [], own := [] } a' w' :=
              ⟨hR'.ok, hR'.heap, hR'.ownh, fun t ht => ⟨.any _, trivial⟩, fun t ht => rfl, hR'.size, hR'.defers, hR'.ext, hR'.boxes, hR'.bufs⟩
            have hR2 : Rel C fn.ntmps (G'.trunc h'.length) cls' ⟨[], [], h', wr⟩ a' w' := by
              obtain ⟨G2, hG2, hR2⟩ := hq.rel' hS.1.symm (by show G.boxes.length = _; rw [← hW.len]; exact hS.1.symm) hR0
              rw [hG2] at hR2
              exact hR2
            have hs2 : Sees (G'.trunc h'.length) r v := by
              have : Sees G' (resOf h'.length (xres rs s)) v := by
                rcases resOf_cases h'.length (xres rs s) with ⟨e, _⟩ | ⟨e, _⟩ | ⟨c, _, e, _⟩ <;> rw [e]
                · exact hs
                · exact hs.unown
                · exact hs.relabel _
              exact (l4.sees this).trunc l5
            -- whose the answer's room is
            obtain ⟨cls2, k1, k2⟩ : ∃ cls2 : Nat → Id, OwnAt G' (fun b c => cls2 b = c ∧ (G.bufs b = none ∨ Touched G args vs h b)) (resOf h'.length (xres rs s)) v ∧ ∀ b i j, i < h'.length → cls' b = .cell i j → cls2 b = cls' b := by
              rcases resOf_cases h'.length (xres rs s) with ⟨e, e2⟩ | ⟨e, _⟩ | ⟨c, e1, e, e2⟩ <;> rw [e]
              · exact ⟨cls', .none _ e2, fun _ _ _ _ _ => rfl⟩
              · exact ⟨cls', .none _ (AV.idOf_unown _), fun _ _ _ _ _ => rfl⟩
              · classical
                refine ⟨fun b => if cls' b = c then .res else cls' b, ho.relabel _ fun b y B _ hy _ hcl => ?_, fun b i j hi hb => ?_⟩
                · rw [e1] at hy; injection hy with hy; subst hy
                  exact ⟨by show (if _ then _ else _) = _; rw [if_pos hcl.1], hcl.2⟩
                · show (if _ then _ else _) = _
                  rw [if_neg]
                  intro hh
                  have := e2 i j (hh.symm.trans hb)
                  omega
            refine ⟨G'.trunc h'.length, cls2, rfl, hR2.ext, hR2.ok, hR2.heap, fun i cs us h1 h2 j c hj => ?_, hs2, ?_, fun c hc => ?_, fun i hi hn => hR2.boxes i hi hn, fun b B hb hT => hR2.bufs b B hb hT⟩
            · obtain ⟨h3, h4⟩ := hR2.ownh i cs us h1 h2 j c hj
              have hi : i < h'.length := (List.getElem?_eq_some_iff.1 h1).1
              refine ⟨h3.imp2 fun b y B _ hy _ hcl => ?_, h4⟩
              have := h4 y hy
              subst this
              exact ⟨(k2 b i j hi hcl.1).trans hcl.1, hcl.2⟩
            · have : Sees G' (resOf h'.length (xres rs s)) v := by
                rcases resOf_cases h'.length (xres rs s) with ⟨e, _⟩ | ⟨e, _⟩ | ⟨c, _, e, _⟩ <;> rw [e]
                · exact hs
                · exact hs.unown
                · exact hs.relabel _
              exact (l4.own this k1).keep fun b B c hb _ => hb
            · rcases l4.id with e | e | e | ⟨_, e, _⟩
              · rw [e] at hc; cases hc
              · rw [e] at hc; injection hc with hc; exact hc.symm
              · rw [e] at hc
                rcases resOf_cases h'.length (xres rs s) with ⟨e3, e2⟩ | ⟨e3, _⟩ | ⟨c', e1, e3, _⟩ <;> rw [e3] at hc
                · rw [e2] at hc; cases hc
                · rw [AV.idOf_unown] at hc; cases hc
                · rw [relabel_id, e1] at hc; injection hc with hc; exact hc.symm
              · cases e
          have fin : ∀ (Ds : List Nat) (s : St) (G' : Ghost) (cls' : Nat → Id) (a' : Act) (w' : World), a'.defers = Ds.map markOf → Rel C fn.ntmps G' cls' s a' w' → leave rs h.length r h' wr s →
              LeavesInM (Fr none) 0 P fn a'.tmps (fun e w' => ∃ v G' cls', e = .returned v ∧ After G (Touched G args vs h) r h' wr v G' cls' w') a'.defers .returning w' := by
            intro Ds
            induction Ds with
            | nil =>
              intro s G' cls' a' w' hd hR' hL
              rw [hd]
              obtain ⟨v, hv, v', G2, c2, e, hA⟩ := fin0 s G' cls' a' w' hR' hL
              exact ⟨v, hv, v', G2, c2, e, hA⟩
            | cons D Ds ih =>
              intro s G' cls' a' w' hd hR' hL
              obtain ⟨hobj, hR2⟩ := hR'.shut hd
              rw [hd]
              exact ⟨by simp, .inl ⟨D, _, rfl, run_takeDeferred hobj, ih s _ cls' { a' with defers := Ds.map markOf } _ rfl hR2 hL⟩⟩
          cases e with
          | normal => obtain ⟨s, G', cls', h1, h2⟩ := hh; obtain ⟨Ds, hd, _⟩ := h1.defers; exact fin Ds s G' cls' a' w' hd h1 h2
          | ret => obtain ⟨s, G', cls', h1, h2⟩ := hh; obtain ⟨Ds, hd, _⟩ := h1.defers; exact fin Ds s G' cls' a' w' hd h1 h2
          | exit id => obtain ⟨s, G', cls', h1, h2⟩ := hh; exact h2.elim
          | _ => exact hh.elim
        · cases hf
      · cases hf
    · cases hf
  · cases hf
theorem strip_ccode {P : Program} {N : Nat} : ∀ (c : Code) (x : XCode), ccode P N c = some x → x.strip = x
  | .scope c, x, h => strip_ccode c x h
  | .skip, x, h => by injection h with h; subst h; rfl
  | .label _, x, h => by injection h with h; subst h; rfl
  | .ret, x, h => by injection h with h; subst h; rfl
  | .exit _, x, h => by injection h with h; subst h; rfl
  | .region _ _ _, x, h => by rcases ccode_region h with ⟨_, xs, _, rfl⟩ | ⟨_, _, t, _, rfl⟩ | ⟨_, _, _, _, _, rfl⟩ | ⟨_, _, _, _, _, _, rfl⟩ | ⟨_, _, _, _, _, _, _, _, rfl⟩ <;> rfl
  | .seq c d, x, h => by obtain ⟨y, z, h1, h2, rfl⟩ := ccode_seq h; simp only [XCode.strip, strip_ccode c y h1, strip_ccode d z h2]
  | .cond v c d, x, h => by obtain ⟨y, z, _, h1, h2, rfl⟩ := ccode_cond h; simp only [XCode.strip, strip_ccode c y h1, strip_ccode d z h2]
  | .block i c, x, h => by obtain ⟨y, h1, rfl⟩ := ccode_block h; simp only [XCode.strip, strip_ccode c y h1]
  | .loop c, x, h => by obtain ⟨y, h1, rfl⟩ := ccode_loop h; simp only [XCode.strip, strip_ccode c y h1]
  | .goto _, x, h => by cases h
  | .refuse _, x, h => by cases h
  | .rangeFunc g ps c d, x, h => by obtain ⟨y, z, _, _, _, h1, h2, rfl⟩ := ccode_range h; simp only [XCode.strip, strip_ccode c y h1, strip_ccode d z h2]
theorem cfun_strip {P : Program} {f : FuncId} {X : XFun} (hf : cfun P f = some X) : X.code.strip = X.code := by
  unfold cfun at hf
  split at hf
  · split at hf
    · split at hf
      · split at hf
        · rename_i x rs hc hr
          injection hf with hf; subst hf
          exact strip_ccode _ _ hc
        · cases hf
      · cases hf
    · cases hf
  · cases hf
theorem contract_of {P : Program} {f : FuncId} {X : XFun} (hf : cfun P f = some X) (hm : P.follows .mixedOrders = true) {args : List AV} {h : List (List AV)} {r : AV} {h' : List (List AV)} {wr : List Nat} (ha : args.length ≤ X.n)
    (hx : ltLL h.length h → ltL h.length args → xwp P ⟨h, args⟩ X.code (enter args h) (kret X.res h.length r h' wr)) : Contract P f args h r h' wr :=
  contract_cut X.code hf (cfun_strip hf) hm ha hx
end Go.Proofs.YtofkddajlgebjaaGreat.Ax
/- How functions are reckoned over values without memory: what simp may open. Each rule asks that it is plain where a function stands ('St.mk ..'), so that what follows is opened only when it is reached. No program is named here. -/
namespace Go.Proofs.YtofkddajlgebjaaGreat.Ax
open Go.RowKit Go By

def vgo (v : Val) (s : St) (d : Option Nat) (K : St → List Nat → Prop) : Prop := v.ok ∧ K (s.puts d v.val v.own) v.ld
def xbox (o : Option (List AV)) (s : St) (d : Option Nat) (K : St → List Nat → Prop) : Prop := onSome o fun l => K ({ s with heap := s.heap ++ [l.map AV.unown] }.puts d (.box s.heap.length 0) false) []
def xbuild (o : Option (List AV)) (k len : Nat) (s : St) (d : Option Nat) (K : St → List Nat → Prop) : Prop := onSome o fun cs => K (s.puts d (.sl k (chunk k len cs) (some false) .exact) false) []
def xstore (o : Option St) (d : Option Nat) (K : St → List Nat → Prop) : Prop := onSome o fun s' => K (s'.puts d .any false) []

theorem xcall_of {P : Program} {f : FuncId} {args bs : List AV} {s : St} {d : Option Nat} {K : St → List Nat → Prop} {r : AV} {h' : List (List AV)} {wr : List Nat} (hc : Contract P f bs s.heap r h' wr) (hf : fitL 0 args bs) (hn : (idsOf (handL args bs)).Nodup) (hk : K (s.called (handL args bs) d r h' wr) []) : xcall P f args s d K :=
  .inl ⟨bs, r, h', wr, hc, hf, hn, hk⟩
@[simp] theorem lstate_unown (x y : Bool) : (lstate x y).map AV.unown = lstate x y := rfl
@[simp] theorem unownE_nil : unownE [] = [] := rfl
@[simp] theorem unownE_cons (k : Nat) (a : AV) (r : List (Nat × AV)) : unownE ((k, a) :: r) = (k, a.unown) :: unownE r := rfl
attribute [simp] St.round St.turn
theorem xloop_of {P : Program} {m : Frm} {a : XCode} {s : St} {K : XExit → St → Prop} {D : Type} (inv : D → St) (μ : D → Nat) (d0 : D) (h0 : Leq m.h.length s (inv d0)) (hr : ∀ d, xwp P m a (inv d) (XExit.then (fun s' => ∃ d', μ d' < μ d ∧ Leq m.h.length s' (inv d')) K)) : xwp P m (.loop a) s K :=
  ⟨D, inv, μ, ⟨d0, h0⟩, hr⟩

/-! ### Control -/
section
variable {P : Program} {m : Frm} {e o : List (Nat × AV)} {h : List (List AV)} {wr : List Nat} {s : St} {K : XExit → St → Prop}
@[simp] theorem xwp_skip : xwp P m .skip ⟨e, o, h, wr⟩ K = K .normal ⟨e, o, h, wr⟩ := of_eq_true (eq_self _)
@[simp] theorem xwp_ops (xs : List XOper) : xwp P m (.ops xs) ⟨e, o, h, wr⟩ K = xops P xs ⟨e, o, h, wr⟩ [] fun s' _ => K .normal s' := of_eq_true (eq_self _)
@[simp] theorem xwp_draws (t : XTree) : xwp P m (.draws t) ⟨e, o, h, wr⟩ K = xtree P t ⟨e, o, h, wr⟩ [] (K .normal) := of_eq_true (eq_self _)
@[simp] theorem xwp_seq (a b : XCode) : xwp P m (.seq a b) ⟨e, o, h, wr⟩ K = xwp P m a ⟨e, o, h, wr⟩ (XExit.then (fun s' => xwp P m b s' K) K) := of_eq_true (eq_self _)
@[simp] theorem xwp_block (id : Nat) (a : XCode) : xwp P m (.block id a) ⟨e, o, h, wr⟩ K = xwp P m a ⟨e, o, h, wr⟩ (XExit.inBlock id K) := of_eq_true (eq_self _)
@[simp] theorem xwp_exit (id : Nat) : xwp P m (.exit id) ⟨e, o, h, wr⟩ K = K (.exit id) ⟨e, o, h, wr⟩ := of_eq_true (eq_self _)
@[simp] theorem xwp_nexts (d : Option Nat) (x : Operand) (xs : List XOper) : xwp P m (.nexts d x xs) ⟨e, o, h, wr⟩ K = xnext ⟨e, o, h, wr⟩ d (St.get ⟨e, o, h, wr⟩ x) fun s' => xops P xs s' [] fun s' _ => K .normal s' := of_eq_true (eq_self _)
@[simp] theorem xwp_sortf (t d : Nat) (x : XOp) (d2 : Nat) (f : Option Nat) (g : FuncId) : xwp P m (.sortf t d x d2 f g) ⟨e, o, h, wr⟩ K = xsortedF P m t d x d2 f g ⟨e, o, h, wr⟩ (K .normal) := of_eq_true (eq_self _)
@[simp] theorem xwp_sortr (t d : Nat) (f : Option Nat) (g : FuncId) : xwp P m (.sortr t d f g) ⟨e, o, h, wr⟩ K = xsorted P m t d f g ⟨e, o, h, wr⟩ (K .normal) := of_eq_true (eq_self _)
@[simp] theorem xwp_ret : xwp P m .ret ⟨e, o, h, wr⟩ K = K .ret ⟨e, o, h, wr⟩ := of_eq_true (eq_self _)
@[simp] theorem xwp_cond_t (x : Operand) (a b : XCode) (hx : St.get ⟨e, o, h, wr⟩ x = .v (.bool true)) : xwp P m (.cond x a b) ⟨e, o, h, wr⟩ K = xwp P m a ⟨e, o, h, wr⟩ K := by simp [xwp, hx, xcond]
@[simp] theorem xwp_cond_f (x : Operand) (a b : XCode) (hx : St.get ⟨e, o, h, wr⟩ x = .v (.bool false)) : xwp P m (.cond x a b) ⟨e, o, h, wr⟩ K = xwp P m b ⟨e, o, h, wr⟩ K := by simp [xwp, hx, xcond]
theorem xwp_cond_of {x : Operand} {a b : XCode} (c : Bool) (hx : St.get s x = .v (.bool c)) (ht : c = true → xwp P m a s K) (hf : c = false → xwp P m b s K) : xwp P m (.cond x a b) s K := by
  unfold xwp xcond; rw [hx]; exact ⟨ht, hf⟩
@[simp] theorem then_normal (k : St → Prop) : XExit.then k K .normal ⟨e, o, h, wr⟩ = k ⟨e, o, h, wr⟩ := of_eq_true (eq_self _)
@[simp] theorem then_exit (k : St → Prop) (id : Nat) : XExit.then k K (.exit id) ⟨e, o, h, wr⟩ = K (.exit id) ⟨e, o, h, wr⟩ := of_eq_true (eq_self _)
@[simp] theorem then_ret (k : St → Prop) : XExit.then k K .ret ⟨e, o, h, wr⟩ = K .ret ⟨e, o, h, wr⟩ := of_eq_true (eq_self _)
@[simp] theorem block_normal (id : Nat) : XExit.inBlock id K .normal ⟨e, o, h, wr⟩ = K .normal ⟨e, o, h, wr⟩ := of_eq_true (eq_self _)
@[simp] theorem block_exit (id : Nat) : XExit.inBlock id K (.exit id) ⟨e, o, h, wr⟩ = K .normal ⟨e, o, h, wr⟩ := by simp [XExit.inBlock]
@[simp] theorem block_ret (id : Nat) : XExit.inBlock id K .ret ⟨e, o, h, wr⟩ = K .ret ⟨e, o, h, wr⟩ := of_eq_true (eq_self _)
end

attribute [simp] XCode.cuts XCode.inside

/-! ### Operations -/
section
variable {P : Program} {e o : List (Nat × AV)} {h : List (List AV)} {wr : List Nat} {K : St → List Nat → Prop} {d : Option Nat} {ld : List Nat}
@[simp] theorem hold_eq (k : St → Prop) : hold ⟨e, o, h, wr⟩ k = k ⟨e, o, h, wr⟩ := of_eq_true (eq_self _)
@[simp] theorem xops_nil : xops P [] ⟨e, o, h, wr⟩ ld K = K ⟨e, o, h, wr⟩ ld := of_eq_true (eq_self _)
@[simp] theorem xops_cons (op : XOp) (r : List XOper) : xops P (⟨d, op, none⟩ :: r) ⟨e, o, h, wr⟩ ld K = xopL P d op ⟨e, o, h, wr⟩ fun s' l => hold s' fun s' => xops P r s' (l ++ ld) K := of_eq_true (eq_self _)
@[simp] theorem xops_run_ (op : XOp) (g : Nat) (w : Bool) (r : List XOper) (hg : St.look ⟨e, o, h, wr⟩ g = .v (.bool w)) : xops P (⟨d, op, some (g, w)⟩ :: r) ⟨e, o, h, wr⟩ ld K = xopL P d op ⟨e, o, h, wr⟩ fun s' l => hold s' fun s' => xops P r s' (l ++ ld) K := by
  rw [xops]; simp [xwant, hg, xguard]
@[simp] theorem xops_skip_ (op : XOp) (g : Nat) (w : Bool) (r : List XOper) (hg : St.look ⟨e, o, h, wr⟩ g = .v (.bool (!w))) : xops P (⟨d, op, some (g, w)⟩ :: r) ⟨e, o, h, wr⟩ ld K = hold (St.puts ⟨e, o, h, wr⟩ d (.v undef) false) fun s' => xops P r s' ld K := by
  rw [xops]; cases w <;> simp [xwant, hg, xguard]
@[simp] theorem xops_undef (op : XOp) (g : Nat) (w : Bool) (r : List XOper) (hg : St.look ⟨e, o, h, wr⟩ g = .v undef) : xops P (⟨d, op, some (g, w)⟩ :: r) ⟨e, o, h, wr⟩ ld K = hold (St.puts ⟨e, o, h, wr⟩ d (.v undef) false) fun s' => xops P r s' ld K := by
  rw [xops]; simp [xwant, hg, xguard, undef]
@[simp] theorem vgo_mk (p : Prop) (a : AV) (w : Bool) (l : List Nat) : vgo ⟨p, a, w, l⟩ ⟨e, o, h, wr⟩ d K = (p ∧ K (St.puts ⟨e, o, h, wr⟩ d a w) l) := of_eq_true (eq_self _)
@[simp] theorem xopL_move (a_x : Operand) : xopL P d (.move a_x) ⟨e, o, h, wr⟩ K = xop P d (.move a_x) ⟨e, o, h, wr⟩ K := of_eq_true (eq_self _)
@[simp] theorem xopL_assign (a_x : Operand) : xopL P d (.assign a_x) ⟨e, o, h, wr⟩ K = xop P d (.assign a_x) ⟨e, o, h, wr⟩ K := of_eq_true (eq_self _)
@[simp] theorem xopL_pick (a_c a_a a_b : Operand) : xopL P d (.pick a_c a_a a_b) ⟨e, o, h, wr⟩ K = xop P d (.pick a_c a_a a_b) ⟨e, o, h, wr⟩ K := of_eq_true (eq_self _)
@[simp] theorem xopL_alloc (a_z : List AV) : xopL P d (.alloc a_z) ⟨e, o, h, wr⟩ K = xop P d (.alloc a_z) ⟨e, o, h, wr⟩ K := of_eq_true (eq_self _)
@[simp] theorem xopL_box (a_x : Operand) : xopL P d (.box a_x) ⟨e, o, h, wr⟩ K = xop P d (.box a_x) ⟨e, o, h, wr⟩ K := of_eq_true (eq_self _)
@[simp] theorem xopL_build (a_z : List AV) (a_parts : List (Nat × Nat × Operand)) : xopL P d (.build a_z a_parts) ⟨e, o, h, wr⟩ K = xop P d (.build a_z a_parts) ⟨e, o, h, wr⟩ K := of_eq_true (eq_self _)
@[simp] theorem xopL_buildSlice (a_k a_len : Nat) (a_z : List AV) (a_parts : List (Nat × Operand)) : xopL P d (.buildSlice a_k a_len a_z a_parts) ⟨e, o, h, wr⟩ K = xop P d (.buildSlice a_k a_len a_z a_parts) ⟨e, o, h, wr⟩ K := of_eq_true (eq_self _)
@[simp] theorem xopL_load1 (a_x : Operand) : xopL P d (.load1 a_x) ⟨e, o, h, wr⟩ K = xop P d (.load1 a_x) ⟨e, o, h, wr⟩ K := of_eq_true (eq_self _)
@[simp] theorem xopL_loadN (a_n : Nat) (a_x : Operand) : xopL P d (.loadN a_n a_x) ⟨e, o, h, wr⟩ K = xop P d (.loadN a_n a_x) ⟨e, o, h, wr⟩ K := of_eq_true (eq_self _)
@[simp] theorem xopL_store (a_n : Nat) (a_p a_x : Operand) : xopL P d (.store a_n a_p a_x) ⟨e, o, h, wr⟩ K = xop P d (.store a_n a_p a_x) ⟨e, o, h, wr⟩ K := of_eq_true (eq_self _)
@[simp] theorem xopL_nilCheck (a_x : Operand) : xopL P d (.nilCheck a_x) ⟨e, o, h, wr⟩ K = xop P d (.nilCheck a_x) ⟨e, o, h, wr⟩ K := of_eq_true (eq_self _)
@[simp] theorem xopL_bin (a_op : BinOp) (a_x a_y : Operand) : xopL P d (.bin a_op a_x a_y) ⟨e, o, h, wr⟩ K = xop P d (.bin a_op a_x a_y) ⟨e, o, h, wr⟩ K := of_eq_true (eq_self _)
@[simp] theorem xopL_beq (a_neg : Bool) (a_x a_y : Operand) : xopL P d (.beq a_neg a_x a_y) ⟨e, o, h, wr⟩ K = xop P d (.beq a_neg a_x a_y) ⟨e, o, h, wr⟩ K := of_eq_true (eq_self _)
@[simp] theorem xopL_nileq (a_neg : Bool) (a_x : Operand) : xopL P d (.nileq a_neg a_x) ⟨e, o, h, wr⟩ K = xop P d (.nileq a_neg a_x) ⟨e, o, h, wr⟩ K := of_eq_true (eq_self _)
@[simp] theorem xopL_inileq (a_neg : Bool) (a_x : Operand) : xopL P d (.inileq a_neg a_x) ⟨e, o, h, wr⟩ K = xop P d (.inileq a_neg a_x) ⟨e, o, h, wr⟩ K := of_eq_true (eq_self _)
@[simp] theorem xopL_mkI (a_t : TypeId) (a_x : Operand) : xopL P d (.mkI a_t a_x) ⟨e, o, h, wr⟩ K = xop P d (.mkI a_t a_x) ⟨e, o, h, wr⟩ K := of_eq_true (eq_self _)
@[simp] theorem xopL_pnileq (a_neg : Bool) (a_x : Operand) : xopL P d (.pnileq a_neg a_x) ⟨e, o, h, wr⟩ K = xop P d (.pnileq a_neg a_x) ⟨e, o, h, wr⟩ K := of_eq_true (eq_self _)
@[simp] theorem xopL_aeq (a_neg : Bool) (a_ts : List Nat) (a_x a_y : Operand) : xopL P d (.aeq a_neg a_ts a_x a_y) ⟨e, o, h, wr⟩ K = xop P d (.aeq a_neg a_ts a_x a_y) ⟨e, o, h, wr⟩ K := of_eq_true (eq_self _)
@[simp] theorem xopL_un (a_op : UnOp) (a_x : Operand) : xopL P d (.un a_op a_x) ⟨e, o, h, wr⟩ K = xop P d (.un a_op a_x) ⟨e, o, h, wr⟩ K := of_eq_true (eq_self _)
@[simp] theorem xopL_conv (a_k : IntKind) (a_x : Operand) : xopL P d (.conv a_k a_x) ⟨e, o, h, wr⟩ K = xop P d (.conv a_k a_x) ⟨e, o, h, wr⟩ K := of_eq_true (eq_self _)
@[simp] theorem xopL_same (a_x : Operand) : xopL P d (.same a_x) ⟨e, o, h, wr⟩ K = xop P d (.same a_x) ⟨e, o, h, wr⟩ K := of_eq_true (eq_self _)
@[simp] theorem xopL_b2s (a_x : Operand) : xopL P d (.b2s a_x) ⟨e, o, h, wr⟩ K = xop P d (.b2s a_x) ⟨e, o, h, wr⟩ K := of_eq_true (eq_self _)
@[simp] theorem xopL_mkfn (a_f : Fn) (a_first a_cap : List Operand) : xopL P d (.mkfn a_f a_first a_cap) ⟨e, o, h, wr⟩ K = xop P d (.mkfn a_f a_first a_cap) ⟨e, o, h, wr⟩ K := of_eq_true (eq_self _)
@[simp] theorem xopL_slice (a_k : Nat) (a_x : Operand) (a_lo a_hi a_mx : Option Operand) : xopL P d (.slice a_k a_x a_lo a_hi a_mx) ⟨e, o, h, wr⟩ K = xop P d (.slice a_k a_x a_lo a_hi a_mx) ⟨e, o, h, wr⟩ K := of_eq_true (eq_self _)
@[simp] theorem xopL_sliceS (a_x : Operand) (a_lo a_hi : Option Operand) : xopL P d (.sliceS a_x a_lo a_hi) ⟨e, o, h, wr⟩ K = xop P d (.sliceS a_x a_lo a_hi) ⟨e, o, h, wr⟩ K := of_eq_true (eq_self _)
@[simp] theorem xopL_faddr (a_off : Nat) (a_x : Operand) : xopL P d (.faddr a_off a_x) ⟨e, o, h, wr⟩ K = xop P d (.faddr a_off a_x) ⟨e, o, h, wr⟩ K := of_eq_true (eq_self _)
@[simp] theorem xopL_iaddr (a_k : Nat) (a_x a_i : Operand) : xopL P d (.iaddr a_k a_x a_i) ⟨e, o, h, wr⟩ K = xop P d (.iaddr a_k a_x a_i) ⟨e, o, h, wr⟩ K := of_eq_true (eq_self _)
@[simp] theorem xopL_iaddrA (a_n a_k : Nat) (a_x a_i : Operand) : xopL P d (.iaddrA a_n a_k a_x a_i) ⟨e, o, h, wr⟩ K = xop P d (.iaddrA a_n a_k a_x a_i) ⟨e, o, h, wr⟩ K := of_eq_true (eq_self _)
@[simp] theorem xopL_idxS (a_x a_i : Operand) : xopL P d (.idxS a_x a_i) ⟨e, o, h, wr⟩ K = xop P d (.idxS a_x a_i) ⟨e, o, h, wr⟩ K := of_eq_true (eq_self _)
@[simp] theorem xopL_fld (n : Nat) (one : Bool) (off : Nat) (x : Operand) : xopL P d (.fld n one off x) ⟨e, o, h, wr⟩ K = xop P d (.fld n one off x) ⟨e, o, h, wr⟩ K := of_eq_true (eq_self _)
@[simp] theorem xopL_extract (a_x : Operand) (a_i : Nat) : xopL P d (.extract a_x a_i) ⟨e, o, h, wr⟩ K = xop P d (.extract a_x a_i) ⟨e, o, h, wr⟩ K := of_eq_true (eq_self _)
@[simp] theorem xopL_lenS (a_x : Operand) : xopL P d (.lenS a_x) ⟨e, o, h, wr⟩ K = xop P d (.lenS a_x) ⟨e, o, h, wr⟩ K := of_eq_true (eq_self _)
@[simp] theorem xopL_lenL (a_x : Operand) : xopL P d (.lenL a_x) ⟨e, o, h, wr⟩ K = xop P d (.lenL a_x) ⟨e, o, h, wr⟩ K := of_eq_true (eq_self _)
@[simp] theorem xopL_maxI (a_xs : List Operand) : xopL P d (.maxI a_xs) ⟨e, o, h, wr⟩ K = xop P d (.maxI a_xs) ⟨e, o, h, wr⟩ K := of_eq_true (eq_self _)
@[simp] theorem xopL_minI (a_xs : List Operand) : xopL P d (.minI a_xs) ⟨e, o, h, wr⟩ K = xop P d (.minI a_xs) ⟨e, o, h, wr⟩ K := of_eq_true (eq_self _)
@[simp] theorem xopL_append (a_k a_bytes : Nat) (a_s a_x : Operand) : xopL P d (.append a_k a_bytes a_s a_x) ⟨e, o, h, wr⟩ K = xop P d (.append a_k a_bytes a_s a_x) ⟨e, o, h, wr⟩ K := of_eq_true (eq_self _)
@[simp] theorem xopL_appendS (a_s a_x : Operand) : xopL P d (.appendS a_s a_x) ⟨e, o, h, wr⟩ K = xop P d (.appendS a_s a_x) ⟨e, o, h, wr⟩ K := of_eq_true (eq_self _)
@[simp] theorem xopL_s2b (a_x : Operand) : xopL P d (.s2b a_x) ⟨e, o, h, wr⟩ K = xop P d (.s2b a_x) ⟨e, o, h, wr⟩ K := of_eq_true (eq_self _)
@[simp] theorem xopL_appendN (a_k a_bytes : Nat) (a_x : Operand) : xopL P d (.appendN a_k a_bytes a_x) ⟨e, o, h, wr⟩ K = xop P d (.appendN a_k a_bytes a_x) ⟨e, o, h, wr⟩ K := of_eq_true (eq_self _)
@[simp] theorem xopL_call (a_f : FuncId) (a_args : List Operand) : xopL P d (.call a_f a_args) ⟨e, o, h, wr⟩ K = xop P d (.call a_f a_args) ⟨e, o, h, wr⟩ K := of_eq_true (eq_self _)
@[simp] theorem xopL_bad  : xopL P d (.bad ) ⟨e, o, h, wr⟩ K = xop P d (.bad ) ⟨e, o, h, wr⟩ K := of_eq_true (eq_self _)
@[simp] theorem xopL_callv (x : Operand) (args : List Operand) : xopL P d (.callv x args) ⟨e, o, h, wr⟩ K = xcallvL P (St.get ⟨e, o, h, wr⟩ x) (args.map fun x => St.get ⟨e, o, h, wr⟩ x) ⟨e, o, h, wr⟩ d K := of_eq_true (eq_self _)
@[simp] theorem xcallvL_fn (f : Fn) (first cap args : List AV) : xcallvL P (.fn f first cap) args ⟨e, o, h, wr⟩ d K = xcallv P (.fn f first cap) args ⟨e, o, h, wr⟩ d K := of_eq_true (eq_self _)
@[simp] theorem xcallvL_yld (i : Nat) (r : Loop) (c : Code) (slots args : List AV) : xcallvL P (.yld i r c slots) args ⟨e, o, h, wr⟩ d K = xyield P i r c slots args ⟨e, o, h, wr⟩ d K := of_eq_true (eq_self _)
@[simp] theorem xopL_lookup (a_ks : Option IntKind) (a_n : Nat) (a_one a_c : Bool) (a_z : List AV) (a_x a_k : Operand) : xopL P d (.lookup a_ks a_n a_one a_c a_z a_x a_k) ⟨e, o, h, wr⟩ K = xop P d (.lookup a_ks a_n a_one a_c a_z a_x a_k) ⟨e, o, h, wr⟩ K := of_eq_true (eq_self _)
@[simp] theorem xopL_lenM (a_n : Nat) (a_one : Bool) (a_x : Operand) : xopL P d (.lenM a_n a_one a_x) ⟨e, o, h, wr⟩ K = xop P d (.lenM a_n a_one a_x) ⟨e, o, h, wr⟩ K := of_eq_true (eq_self _)
@[simp] theorem xopL_mnileq (a_neg : Bool) (a_x : Operand) : xopL P d (.mnileq a_neg a_x) ⟨e, o, h, wr⟩ K = xop P d (.mnileq a_neg a_x) ⟨e, o, h, wr⟩ K := of_eq_true (eq_self _)
@[simp] theorem xopL_entry (a_x : Operand) : xopL P d (.entry a_x) ⟨e, o, h, wr⟩ K = xop P d (.entry a_x) ⟨e, o, h, wr⟩ K := of_eq_true (eq_self _)
@[simp] theorem xopL_makeMap (a_n : Nat) (a_one : Bool) : xopL P d (.makeMap a_n a_one) ⟨e, o, h, wr⟩ K = xop P d (.makeMap a_n a_one) ⟨e, o, h, wr⟩ K := of_eq_true (eq_self _)
@[simp] theorem xopL_mapUpd (a_ks : Option IntKind) (a_n : Nat) (a_one : Bool) (a_m a_k a_x : Operand) : xopL P d (.mapUpd a_ks a_n a_one a_m a_k a_x) ⟨e, o, h, wr⟩ K = xop P d (.mapUpd a_ks a_n a_one a_m a_k a_x) ⟨e, o, h, wr⟩ K := of_eq_true (eq_self _)
@[simp] theorem xopL_mapDel (a_ks : Option IntKind) (a_n : Nat) (a_one : Bool) (a_m a_k : Operand) : xopL P d (.mapDel a_ks a_n a_one a_m a_k) ⟨e, o, h, wr⟩ K = xop P d (.mapDel a_ks a_n a_one a_m a_k) ⟨e, o, h, wr⟩ K := of_eq_true (eq_self _)
@[simp] theorem xopL_rangeM (a_n : Nat) (a_one : Bool) (a_x : Operand) : xopL P d (.rangeM a_n a_one a_x) ⟨e, o, h, wr⟩ K = xop P d (.rangeM a_n a_one a_x) ⟨e, o, h, wr⟩ K := of_eq_true (eq_self _)
@[simp] theorem xopL_emptyS (k : Nat) : xopL P d (.emptyS k) ⟨e, o, h, wr⟩ K = xop P d (.emptyS k) ⟨e, o, h, wr⟩ K := of_eq_true (eq_self _)
@[simp] theorem xopL_clearS (k : Nat) (z : Value) (x : Operand) : xopL P d (.clearS k z x) ⟨e, o, h, wr⟩ K = xop P d (.clearS k z x) ⟨e, o, h, wr⟩ K := of_eq_true (eq_self _)
@[simp] theorem xopL_clearM (n : Nat) (one : Bool) (x : Operand) : xopL P d (.clearM n one x) ⟨e, o, h, wr⟩ K = xop P d (.clearM n one x) ⟨e, o, h, wr⟩ K := of_eq_true (eq_self _)
@[simp] theorem xop_clearM (n : Nat) (one : Bool) (x : Operand) : xop P d (.clearM n one x) ⟨e, o, h, wr⟩ K = xclearM ⟨e, o, h, wr⟩ n one d (St.get ⟨e, o, h, wr⟩ x) K := of_eq_true (eq_self _)
@[simp] theorem xclearM_nil (n : Nat) (one : Bool) : xclearM ⟨e, o, h, wr⟩ n one d (.v (.map none)) K = K (St.puts ⟨e, o, h, wr⟩ d .any false) [] := of_eq_true (eq_self _)
@[simp] theorem xclearM_mp (n : Nat) (one : Bool) (i n' : Nat) (one' : Bool) : xclearM ⟨e, o, h, wr⟩ n one d (.mp i n' one') K = ((n' = n ∧ one' = one) ∧ onSome (mapAt h n i) fun p => K (St.puts ⟨e, o, h.set i (mapC p.1 []), i :: wr⟩ d .any false) []) := of_eq_true (eq_self _)
@[simp] theorem xopL_copyB (x y : Operand) : xopL P d (.copyB x y) ⟨e, o, h, wr⟩ K = xop P d (.copyB x y) ⟨e, o, h, wr⟩ K := of_eq_true (eq_self _)
@[simp] theorem xop_copyB (x y : Operand) : xop P d (.copyB x y) ⟨e, o, h, wr⟩ K = xcopy ⟨e, o, h, wr⟩ d (St.get ⟨e, o, h, wr⟩ x) (St.get ⟨e, o, h, wr⟩ y) K := of_eq_true (eq_self _)
@[simp] theorem xop_clearS (k : Nat) (z : Value) (x : Operand) : xop P d (.clearS k z x) ⟨e, o, h, wr⟩ K = xclear ⟨e, o, h, wr⟩ k z d (St.get ⟨e, o, h, wr⟩ x) K := of_eq_true (eq_self _)
@[simp] theorem xclear_sl (kz : Nat) (z : Value) (k : Nat) (nul : Option Bool) (room : Room) : xclear ⟨e, o, h, wr⟩ kz z d (.sl k [] nul room) K = K (St.puts ⟨e, o, h, wr⟩ d .any false) [] := propext ⟨fun h => h.2, fun h => ⟨rfl, h⟩⟩
@[simp] theorem xclear_bsl (k : Nat) (z : Value) (i off n : Nat) : xclear ⟨e, o, h, wr⟩ k z d (.bsl i off k n) K = onSome (h[i]?) fun cs => off + n * k ≤ cs.length ∧ K (St.puts ⟨e, o, h.set i (lay cs off (List.replicate (n * k) (ofC1 z))), i :: wr⟩ d .any false) [] := propext ⟨fun h => h.2, fun h => ⟨rfl, h⟩⟩
@[simp] theorem xopL_makeS (k bytes : Nat) (c : Operand) : xopL P d (.makeS k bytes c) ⟨e, o, h, wr⟩ K = xop P d (.makeS k bytes c) ⟨e, o, h, wr⟩ K := of_eq_true (eq_self _)
@[simp] theorem xop_makeS (k bytes : Nat) (c : Operand) : xop P d (.makeS k bytes c) ⟨e, o, h, wr⟩ K = xmakeS ⟨e, o, h, wr⟩ k bytes d (St.get ⟨e, o, h, wr⟩ c) K := of_eq_true (eq_self _)
@[simp] theorem xmakeS_some (k bytes d : Nat) (n : Int) : xmakeS ⟨e, o, h, wr⟩ k bytes (some d) (.v (.int .i64 n)) K = (0 ≤ n ∧ (bytes : Int) * n ≤ 140737488355328 ∧ n ≤ 140737488355328 ∧ K (St.putO ⟨e, o, h, wr⟩ d (.sl k [] (some false) (.own (.new d)))) []) := of_eq_true (eq_self _)
@[simp] theorem xopL_makeB (k bytes : Nat) (z : List AV) (c : Operand) : xopL P d (.makeB k bytes z c) ⟨e, o, h, wr⟩ K = xop P d (.makeB k bytes z c) ⟨e, o, h, wr⟩ K := of_eq_true (eq_self _)
@[simp] theorem xop_makeB (k bytes : Nat) (z : List AV) (c : Operand) : xop P d (.makeB k bytes z c) ⟨e, o, h, wr⟩ K = xmakeB ⟨e, o, h, wr⟩ k bytes d z (St.get ⟨e, o, h, wr⟩ c) K := of_eq_true (eq_self _)
@[simp] theorem xmakeB_v (k bytes : Nat) (z : List AV) (n : Int) : xmakeB ⟨e, o, h, wr⟩ k bytes d z (.v (.int .i64 n)) K = (0 ≤ n ∧ (bytes : Int) * n ≤ 140737488355328 ∧ n ≤ 140737488355328 ∧ K (St.puts ⟨e, o, h ++ [(List.replicate n.toNat z).flatten], wr⟩ d (.bsl h.length 0 k n.toNat) false) []) := of_eq_true (eq_self _)
@[simp] theorem xop_emptyS (k : Nat) : xop P d (.emptyS k) ⟨e, o, h, wr⟩ K = K (St.puts ⟨e, o, h, wr⟩ d (.sl k [] (some false) .exact) false) [] := of_eq_true (eq_self _)
@[simp] theorem xop_lookup (ks : Option IntKind) (n : Nat) (one c : Bool) (z : List AV) (x k : Operand) : xop P d (.lookup ks n one c z x k) ⟨e, o, h, wr⟩ K = vgo (vLookup h ks n one c z (St.get ⟨e, o, h, wr⟩ x) (St.get ⟨e, o, h, wr⟩ k)) ⟨e, o, h, wr⟩ d K := of_eq_true (eq_self _)
@[simp] theorem xop_lenM (n : Nat) (one : Bool) (x : Operand) : xop P d (.lenM n one x) ⟨e, o, h, wr⟩ K = vgo (vLenM h n one (St.get ⟨e, o, h, wr⟩ x)) ⟨e, o, h, wr⟩ d K := of_eq_true (eq_self _)
@[simp] theorem xop_mnileq (neg : Bool) (x : Operand) : xop P d (.mnileq neg x) ⟨e, o, h, wr⟩ K = vgo (vMnil neg (St.get ⟨e, o, h, wr⟩ x)) ⟨e, o, h, wr⟩ d K := of_eq_true (eq_self _)
@[simp] theorem xop_entry (x : Operand) : xop P d (.entry x) ⟨e, o, h, wr⟩ K = vgo (vEntry h (St.get ⟨e, o, h, wr⟩ x)) ⟨e, o, h, wr⟩ d K := of_eq_true (eq_self _)
@[simp] theorem xop_makeMap (n : Nat) (one : Bool) : xop P d (.makeMap n one) ⟨e, o, h, wr⟩ K = K (St.puts ⟨e, o, h ++ [mapC 0 []], wr⟩ d (.mp h.length n one) false) [] := of_eq_true (eq_self _)
@[simp] theorem xop_mapUpd (ks : Option IntKind) (n : Nat) (one : Bool) (m k x : Operand) : xop P d (.mapUpd ks n one m k x) ⟨e, o, h, wr⟩ K = xmapUpd ⟨e, o, h, wr⟩ ks n one d (St.get ⟨e, o, h, wr⟩ m) (St.get ⟨e, o, h, wr⟩ k) (St.get ⟨e, o, h, wr⟩ x) K := of_eq_true (eq_self _)
@[simp] theorem xop_mapDel (ks : Option IntKind) (n : Nat) (one : Bool) (m k : Operand) : xop P d (.mapDel ks n one m k) ⟨e, o, h, wr⟩ K = xmapDel ⟨e, o, h, wr⟩ ks n one d (St.get ⟨e, o, h, wr⟩ m) (St.get ⟨e, o, h, wr⟩ k) K := of_eq_true (eq_self _)
@[simp] theorem xop_rangeM (n : Nat) (one : Bool) (x : Operand) : xop P d (.rangeM n one x) ⟨e, o, h, wr⟩ K = xrangeM ⟨e, o, h, wr⟩ n one d (St.get ⟨e, o, h, wr⟩ x) K := of_eq_true (eq_self _)
@[simp] theorem onSome_some {α : Type} (a : α) (k : α → Prop) : onSome (some a) k = k a := of_eq_true (eq_self _)
@[simp] theorem xmapUpd_mp (ks : Option IntKind) (n : Nat) (one : Bool) (i n' : Nat) (one' : Bool) (kv : Value) (x : AV) : xmapUpd ⟨e, o, h, wr⟩ ks n one d (.mp i n' one') (.v kv) x K = ((n' = n ∧ one' = one) ∧ isKeyV ks kv = true ∧ onSome (mapAt h n i) fun p => keysOk ks p.2 ∧ onSome (elC n one x) fun cs =>
    K (St.puts ⟨e, o, h.set i (mapC (AEnt.put kv p.1 cs p.2).2 (AEnt.put kv p.1 cs p.2).1), i :: wr⟩ d .any false) []) := of_eq_true (eq_self _)
@[simp] theorem xmapDel_nil (ks : Option IntKind) (n : Nat) (one : Bool) (kv : Value) : xmapDel ⟨e, o, h, wr⟩ ks n one d (.v (.map none)) (.v kv) K = (isKeyV ks kv = true ∧ K (St.puts ⟨e, o, h, wr⟩ d .any false) []) := of_eq_true (eq_self _)
@[simp] theorem xmapDel_mp (ks : Option IntKind) (n : Nat) (one : Bool) (i n' : Nat) (one' : Bool) (kv : Value) : xmapDel ⟨e, o, h, wr⟩ ks n one d (.mp i n' one') (.v kv) K = ((n' = n ∧ one' = one) ∧ isKeyV ks kv = true ∧ onSome (mapAt h n i) fun p => keysOk ks p.2 ∧
    K (St.puts ⟨e, o, h.set i (mapC p.1 (AEnt.del kv p.2)), i :: wr⟩ d .any false) []) := of_eq_true (eq_self _)
@[simp] theorem xrangeM_nil (n : Nat) (one : Bool) : xrangeM ⟨e, o, h, wr⟩ n one d (.v (.map none)) K = K (St.puts ⟨e, o, h ++ [itC 0 0 []], wr⟩ d (.itr h.length none n one) false) [] := of_eq_true (eq_self _)
@[simp] theorem xrangeM_mp (n : Nat) (one : Bool) (i n' : Nat) (one' : Bool) : xrangeM ⟨e, o, h, wr⟩ n one d (.mp i n' one') K = ((n' = n ∧ one' = one) ∧ onSome (mapAt h n i) fun p => K (St.puts ⟨e, o, h ++ [itC p.1 p.1 []], wr⟩ d (.itr h.length (some i) n one) false) []) := of_eq_true (eq_self _)
@[simp] theorem xnext_nil (j n : Nat) (one : Bool) (k : St → Prop) : xnext ⟨e, o, h, wr⟩ d (.itr j none n one) k = k (St.puts ⟨e, o, h, wr⟩ d (.tup [.v (.bool false)]) false) := of_eq_true (eq_self _)
@[simp] theorem xnext_some (j i n : Nat) (one : Bool) (k : St → Prop) : xnext ⟨e, o, h, wr⟩ d (.itr j (some i) n one) k = (onSome (itAt h j) fun q => onSome (mapAt h n i) fun p => (one = true → 0 < n) ∧ (∀ e ∈ p.2, e.born < q.1) ∧ q.1 ≤ q.2.1 ∧
    ((∀ e ∈ p.2, e.born ∈ q.2.2) → k (St.puts ⟨e, o, h, wr⟩ d (.tup [.v (.bool false)]) false)) ∧
    ∀ a ∈ p.2, a.born ∉ q.2.2 → k (St.puts ⟨e, o, h.set j (itC q.1 p.1 (q.2.2 ++ [a.born])), j :: wr⟩ d (.tup [.v (.bool true), .v a.key, elA one a.cells]) false)) := of_eq_true (eq_self _)
/-- A value that hangs on a map's entries. -/
def vOn {α : Type} (o : Option α) (f : α → Val) : Val := match o with | some p => f p | none => .bad
@[simp] theorem vOn_some {α : Type} (p : α) (f : α → Val) : vOn (some p) f = f p := of_eq_true (eq_self _)
@[simp] theorem vLookup_nil (ks : Option IntKind) (n : Nat) (one c : Bool) (z : List AV) (kv : Value) : vLookup h ks n one c z (.v (.map none)) (.v kv) = ⟨isKeyV ks kv = true, found one c z none, false, []⟩ := of_eq_true (eq_self _)
@[simp] theorem vLenM_nil (n : Nat) (one : Bool) : vLenM h n one (.v (.map none)) = .of (.v (.int .i64 0)) := of_eq_true (eq_self _)
@[simp] theorem vMnil_mp (neg : Bool) (i n : Nat) (one : Bool) : vMnil neg (.mp i n one) = .of (.v (.bool neg)) := of_eq_true (eq_self _)
@[simp] theorem vMnil_nil (neg : Bool) : vMnil neg (.v (.map none)) = .of (.v (.bool (!neg))) := of_eq_true (eq_self _)
@[simp] theorem found_some_t (one : Bool) (z : List AV) (p : Nat × AEnt) : found one true z (some p) = .tup [elA one p.2.cells, .v (.bool true)] := of_eq_true (eq_self _)
@[simp] theorem found_some_f (one : Bool) (z : List AV) (p : Nat × AEnt) : found one false z (some p) = elA one p.2.cells := of_eq_true (eq_self _)
@[simp] theorem found_none_t (one : Bool) (z : List AV) : found one true z none = .tup [elA one z, .v (.bool false)] := of_eq_true (eq_self _)
@[simp] theorem found_none_f (one : Bool) (z : List AV) : found one false z none = elA one z := of_eq_true (eq_self _)
@[simp] theorem elA_one (c : AV) (r : List AV) : elA true (c :: r) = c.unown := of_eq_true (eq_self _)
@[simp] theorem elA_agg (cs : List AV) : elA false cs = .agg (cs.map AV.unown) := of_eq_true (eq_self _)
@[simp] theorem isKeyV_str (b : ByteArray) : isKeyV none (.string b) = true := of_eq_true (eq_self _)
attribute [simp] mapAt itAt
@[simp] theorem xop_move (x : Operand) : xop P d (.move x) ⟨e, o, h, wr⟩ K = vgo ⟨True, St.get ⟨e, o, h, wr⟩ x, St.mine ⟨e, o, h, wr⟩ x, []⟩ ⟨e, o, h, wr⟩ d K := of_eq_true (eq_self _)
@[simp] theorem xop_pick (c a b : Operand) : xop P d (.pick c a b) ⟨e, o, h, wr⟩ K = vgo (vPick (St.get ⟨e, o, h, wr⟩ c) (St.get ⟨e, o, h, wr⟩ a) (St.get ⟨e, o, h, wr⟩ b)) ⟨e, o, h, wr⟩ d K := of_eq_true (eq_self _)
@[simp] theorem xop_load1 (x : Operand) : xop P d (.load1 x) ⟨e, o, h, wr⟩ K = vgo (vLoad1 h (St.get ⟨e, o, h, wr⟩ x)) ⟨e, o, h, wr⟩ d K := of_eq_true (eq_self _)
@[simp] theorem xop_loadN (n : Nat) (x : Operand) : xop P d (.loadN n x) ⟨e, o, h, wr⟩ K = vgo (vLoadN h n (St.get ⟨e, o, h, wr⟩ x)) ⟨e, o, h, wr⟩ d K := of_eq_true (eq_self _)
@[simp] theorem xop_build (z : List AV) (parts : List (Nat × Nat × Operand)) : xop P d (.build z parts) ⟨e, o, h, wr⟩ K = vgo (vBuild z (parts.map fun p => (p.1, p.2.1, St.get ⟨e, o, h, wr⟩ p.2.2))) ⟨e, o, h, wr⟩ d K := of_eq_true (eq_self _)
@[simp] theorem xop_nilCheck (x : Operand) : xop P d (.nilCheck x) ⟨e, o, h, wr⟩ K = vgo (vNil (St.get ⟨e, o, h, wr⟩ x)) ⟨e, o, h, wr⟩ d K := of_eq_true (eq_self _)
@[simp] theorem xop_bin (op : BinOp) (x y : Operand) : xop P d (.bin op x y) ⟨e, o, h, wr⟩ K = vgo (vBin op (St.get ⟨e, o, h, wr⟩ x) (St.get ⟨e, o, h, wr⟩ y)) ⟨e, o, h, wr⟩ d K := of_eq_true (eq_self _)
@[simp] theorem xop_beq (neg : Bool) (x y : Operand) : xop P d (.beq neg x y) ⟨e, o, h, wr⟩ K = vgo (vBeq neg (St.get ⟨e, o, h, wr⟩ x) (St.get ⟨e, o, h, wr⟩ y)) ⟨e, o, h, wr⟩ d K := of_eq_true (eq_self _)
@[simp] theorem xop_nileq (neg : Bool) (x : Operand) : xop P d (.nileq neg x) ⟨e, o, h, wr⟩ K = vgo (vNilEq neg (St.get ⟨e, o, h, wr⟩ x)) ⟨e, o, h, wr⟩ d K := of_eq_true (eq_self _)
@[simp] theorem xop_inileq (neg : Bool) (x : Operand) : xop P d (.inileq neg x) ⟨e, o, h, wr⟩ K = vgo (vInil neg (St.get ⟨e, o, h, wr⟩ x)) ⟨e, o, h, wr⟩ d K := of_eq_true (eq_self _)
@[simp] theorem xop_mkI (t : TypeId) (x : Operand) : xop P d (.mkI t x) ⟨e, o, h, wr⟩ K = vgo (.of (.ifc t (St.get ⟨e, o, h, wr⟩ x).unown)) ⟨e, o, h, wr⟩ d K := of_eq_true (eq_self _)
@[simp] theorem xop_pnileq (neg : Bool) (x : Operand) : xop P d (.pnileq neg x) ⟨e, o, h, wr⟩ K = vgo (vPnil neg (St.get ⟨e, o, h, wr⟩ x)) ⟨e, o, h, wr⟩ d K := of_eq_true (eq_self _)
@[simp] theorem xop_aeq (neg : Bool) (ts : List Nat) (x y : Operand) : xop P d (.aeq neg ts x y) ⟨e, o, h, wr⟩ K = vgo (vAeq neg ts (St.get ⟨e, o, h, wr⟩ x) (St.get ⟨e, o, h, wr⟩ y)) ⟨e, o, h, wr⟩ d K := of_eq_true (eq_self _)
@[simp] theorem xop_b2s (x : Operand) : xop P d (.b2s x) ⟨e, o, h, wr⟩ K = vgo (vB2s (St.get ⟨e, o, h, wr⟩ x)) ⟨e, o, h, wr⟩ d K := of_eq_true (eq_self _)
@[simp] theorem xop_un (op : UnOp) (x : Operand) : xop P d (.un op x) ⟨e, o, h, wr⟩ K = vgo (vUn op (St.get ⟨e, o, h, wr⟩ x)) ⟨e, o, h, wr⟩ d K := of_eq_true (eq_self _)
@[simp] theorem xop_conv (k : IntKind) (x : Operand) : xop P d (.conv k x) ⟨e, o, h, wr⟩ K = vgo (vConv k (St.get ⟨e, o, h, wr⟩ x)) ⟨e, o, h, wr⟩ d K := of_eq_true (eq_self _)
@[simp] theorem xop_same (x : Operand) : xop P d (.same x) ⟨e, o, h, wr⟩ K = vgo (vSame (St.get ⟨e, o, h, wr⟩ x)) ⟨e, o, h, wr⟩ d K := of_eq_true (eq_self _)
@[simp] theorem xop_mkfn (f : Fn) (first cap : List Operand) : xop P d (.mkfn f first cap) ⟨e, o, h, wr⟩ K = vgo ⟨True, .fn f (first.map fun x => (St.get ⟨e, o, h, wr⟩ x).unown) (cap.map fun x => (St.get ⟨e, o, h, wr⟩ x).unown), false, []⟩ ⟨e, o, h, wr⟩ d K := of_eq_true (eq_self _)
@[simp] theorem xop_slice (k : Nat) (x : Operand) (lo hi mx : Option Operand) : xop P d (.slice k x lo hi mx) ⟨e, o, h, wr⟩ K = vgo (vSlice k (St.get ⟨e, o, h, wr⟩ x) (fun n => cutAt ⟨e, o, h, wr⟩ n lo hi) (mx.map fun m => intOfV (St.get ⟨e, o, h, wr⟩ m)) (hi.isNone && mx.isNone)) ⟨e, o, h, wr⟩ d K := of_eq_true (eq_self _)
@[simp] theorem xop_sliceS (x : Operand) (lo hi : Option Operand) : xop P d (.sliceS x lo hi) ⟨e, o, h, wr⟩ K = vgo (vSliceS (St.get ⟨e, o, h, wr⟩ x) (fun n => cutAt ⟨e, o, h, wr⟩ n lo hi)) ⟨e, o, h, wr⟩ d K := of_eq_true (eq_self _)
@[simp] theorem xop_faddr (off : Nat) (x : Operand) : xop P d (.faddr off x) ⟨e, o, h, wr⟩ K = vgo (vFaddr off (St.get ⟨e, o, h, wr⟩ x)) ⟨e, o, h, wr⟩ d K := of_eq_true (eq_self _)
@[simp] theorem xop_iaddr (k : Nat) (x i : Operand) : xop P d (.iaddr k x i) ⟨e, o, h, wr⟩ K = vgo (vIaddr k (St.get ⟨e, o, h, wr⟩ x) (St.get ⟨e, o, h, wr⟩ i)) ⟨e, o, h, wr⟩ d K := of_eq_true (eq_self _)
@[simp] theorem xop_iaddrA (n k : Nat) (x i : Operand) : xop P d (.iaddrA n k x i) ⟨e, o, h, wr⟩ K = vgo (vIaddrA n k (St.get ⟨e, o, h, wr⟩ x) (St.get ⟨e, o, h, wr⟩ i)) ⟨e, o, h, wr⟩ d K := of_eq_true (eq_self _)
@[simp] theorem xop_idxS (x i : Operand) : xop P d (.idxS x i) ⟨e, o, h, wr⟩ K = vgo (vIdxS (St.get ⟨e, o, h, wr⟩ x) (St.get ⟨e, o, h, wr⟩ i)) ⟨e, o, h, wr⟩ d K := of_eq_true (eq_self _)
@[simp] theorem xop_fld (n : Nat) (one : Bool) (off : Nat) (x : Operand) : xop P d (.fld n one off x) ⟨e, o, h, wr⟩ K = vgo (vFld n one off (St.get ⟨e, o, h, wr⟩ x)) ⟨e, o, h, wr⟩ d K := of_eq_true (eq_self _)
@[simp] theorem xop_extract (x : Operand) (i : Nat) : xop P d (.extract x i) ⟨e, o, h, wr⟩ K = vgo (vExtract (St.get ⟨e, o, h, wr⟩ x) i) ⟨e, o, h, wr⟩ d K := of_eq_true (eq_self _)
@[simp] theorem xop_lenS (x : Operand) : xop P d (.lenS x) ⟨e, o, h, wr⟩ K = vgo (vLenS (St.get ⟨e, o, h, wr⟩ x)) ⟨e, o, h, wr⟩ d K := of_eq_true (eq_self _)
@[simp] theorem xop_lenL (x : Operand) : xop P d (.lenL x) ⟨e, o, h, wr⟩ K = vgo (vLenL (St.get ⟨e, o, h, wr⟩ x)) ⟨e, o, h, wr⟩ d K := of_eq_true (eq_self _)
@[simp] theorem xop_maxI (xs : List Operand) : xop P d (.maxI xs) ⟨e, o, h, wr⟩ K = vgo (vMax (xs.mapM fun x => int64V (St.get ⟨e, o, h, wr⟩ x))) ⟨e, o, h, wr⟩ d K := of_eq_true (eq_self _)
@[simp] theorem xop_minI (xs : List Operand) : xop P d (.minI xs) ⟨e, o, h, wr⟩ K = vgo (vMin (xs.mapM fun x => int64V (St.get ⟨e, o, h, wr⟩ x))) ⟨e, o, h, wr⟩ d K := of_eq_true (eq_self _)
@[simp] theorem xop_assign (n : Nat) (x : Operand) : xop P (some n) (.assign x) ⟨e, o, h, wr⟩ K = K (St.assigned ⟨e, o, h, wr⟩ n x) [] := of_eq_true (eq_self _)
@[simp] theorem xop_alloc (z : List AV) : xop P d (.alloc z) ⟨e, o, h, wr⟩ K = K (St.puts ⟨e, o, h ++ [z], wr⟩ d (.box h.length 0) false) [] := of_eq_true (eq_self _)
@[simp] theorem xop_box (x : Operand) : xop P d (.box x) ⟨e, o, h, wr⟩ K = xbox (St.get ⟨e, o, h, wr⟩ x).cells ⟨e, o, h, wr⟩ d K := of_eq_true (eq_self _)
@[simp] theorem xbox_some (l : List AV) : xbox (some l) ⟨e, o, h, wr⟩ d K = K (St.puts ⟨e, o, h ++ [l.map AV.unown], wr⟩ d (.box h.length 0) false) [] := of_eq_true (eq_self _)
@[simp] theorem xop_buildSlice (k len : Nat) (z : List AV) (parts : List (Nat × Operand)) : xop P d (.buildSlice k len z parts) ⟨e, o, h, wr⟩ K = xbuild (fillX (rep k z len) (parts.map fun p => (p.1 * k, k, St.get ⟨e, o, h, wr⟩ p.2))) k len ⟨e, o, h, wr⟩ d K := of_eq_true (eq_self _)
@[simp] theorem xbuild_some (cs : List AV) (k len : Nat) : xbuild (some cs) k len ⟨e, o, h, wr⟩ d K = K (St.puts ⟨e, o, h, wr⟩ d (.sl k (chunk k len cs) (some false) .exact) false) [] := of_eq_true (eq_self _)
@[simp] theorem xop_store (n : Nat) (p x : Operand) : xop P d (.store n p x) ⟨e, o, h, wr⟩ K = xstore (St.storedAt ⟨e, o, h, wr⟩ n (St.get ⟨e, o, h, wr⟩ p) (St.get ⟨e, o, h, wr⟩ x)) d K := of_eq_true (eq_self _)
@[simp] theorem xstore_some : xstore (some ⟨e, o, h, wr⟩) d K = K (St.puts ⟨e, o, h, wr⟩ d .any false) [] := of_eq_true (eq_self _)
@[simp] theorem xop_append (k bytes : Nat) (a x : Operand) : xop P d (.append k bytes a x) ⟨e, o, h, wr⟩ K = xappendA ⟨e, o, h, wr⟩ k bytes d (St.get ⟨e, o, h, wr⟩ a) (St.get ⟨e, o, h, wr⟩ x) K := of_eq_true (eq_self _)
@[simp] theorem xappendA_slO (k bytes k1 : Nat) (es : List (List AV)) (nul : Option Bool) (c : Id) (x : AV) (hn : nul ≠ some true) : xappendA ⟨e, o, h, wr⟩ k bytes d (.sl k1 es nul (.own c)) x K = xappend ⟨e, o, h, wr⟩ k bytes d (.sl k1 es nul (.own c)) x K := by
  refine propext ⟨fun hh => ?_, .inl⟩
  rcases hh with hh | hh | hh
  · exact hh
  · obtain ⟨es2, hr, hne, hid, hm⟩ := hh
    rcases hm with hm | hm
    · rcases hm.1 with h1 | ⟨_, h1⟩
      · exact absurd h1 hn
      · cases h1
    · cases hm.2.2.1
  · obtain ⟨hx, hm⟩ := hh
    rcases hm with ⟨_, h1, _⟩ | ⟨_, _, _, h1, _⟩ | ⟨_, _, h1, _⟩
    · exact absurd h1 hn
    · cases h1
    · cases h1
theorem xappendA_own {k bytes : Nat} {a x : AV} (hh : xappend ⟨e, o, h, wr⟩ k bytes d a x K) : xappendA ⟨e, o, h, wr⟩ k bytes d a x K := .inl hh
@[simp] theorem xop_appendS (a x : Operand) : xop P d (.appendS a x) ⟨e, o, h, wr⟩ K = xappendS ⟨e, o, h, wr⟩ d (St.get ⟨e, o, h, wr⟩ a) (St.get ⟨e, o, h, wr⟩ x) K := of_eq_true (eq_self _)
@[simp] theorem xop_s2b (x : Operand) : xop P d (.s2b x) ⟨e, o, h, wr⟩ K = xs2b ⟨e, o, h, wr⟩ d (St.get ⟨e, o, h, wr⟩ x) K := of_eq_true (eq_self _)
@[simp] theorem xs2b_v (b : ByteArray) : xs2b ⟨e, o, h, wr⟩ d (.v (.string b)) K = (b.size ≤ 140737488355328 ∧ K (St.puts ⟨e, o, h, wr⟩ d (.sl 1 (bytesE b.data.toList) none .no) false) []) := of_eq_true (eq_self _)
@[simp] theorem xop_appendN (k bytes : Nat) (x : Operand) : xop P d (.appendN k bytes x) ⟨e, o, h, wr⟩ K = xappendN ⟨e, o, h, wr⟩ k bytes d (St.get ⟨e, o, h, wr⟩ (.const (.slice none 0 0))) (St.get ⟨e, o, h, wr⟩ x) K := of_eq_true (eq_self _)
@[simp] theorem xop_call (f : FuncId) (args : List Operand) : xop P d (.call f args) ⟨e, o, h, wr⟩ K = xcall P f (args.map fun x => St.get ⟨e, o, h, wr⟩ x) ⟨e, o, h, wr⟩ d K := of_eq_true (eq_self _)
@[simp] theorem xop_callv (x : Operand) (args : List Operand) : xop P d (.callv x args) ⟨e, o, h, wr⟩ K = xcallv P (St.get ⟨e, o, h, wr⟩ x) (args.map fun x => St.get ⟨e, o, h, wr⟩ x) ⟨e, o, h, wr⟩ d K := of_eq_true (eq_self _)
@[simp] theorem xcallv_fn (f : FuncId) (first cap args : List AV) : xcallv P (.fn (.func f) first cap) args ⟨e, o, h, wr⟩ d K = ((∀ c ∈ first ++ cap, c.idOf = none) ∧ xcall P f (first ++ args ++ cap) ⟨e, o, h, wr⟩ d K) := of_eq_true (eq_self _)
@[simp] theorem xappend_sl (k bytes n k1 k2 : Nat) (es es2 : List (List AV)) (nul nul2 : Option Bool) (room room2 : Room) : xappend ⟨e, o, h, wr⟩ k bytes (some n) (.sl k1 es nul room) (.sl k2 es2 nul2 room2) K = (roomOk k1 k es room ∧ (k2 = k ∨ es2 = []) ∧ (es.length + es2.length) * bytes ≤ 140737488355328 ∧ es.length + es2.length ≤ 140737488355328 ∧ K ((St.stripR ⟨e, o, h, wr⟩ room).putO n (.sl k (es ++ es2) none (.own (lblA room n)))) []) := of_eq_true (eq_self _)
@[simp] theorem xappendS_sl (n k1 : Nat) (es : List (List AV)) (nul : Option Bool) (room : Room) (t : ByteArray) : xappendS ⟨e, o, h, wr⟩ (some n) (.sl k1 es nul room) (.v (.string t)) K = (roomOk k1 1 es room ∧ es.length + t.size ≤ 140737488355328 ∧ K ((St.stripR ⟨e, o, h, wr⟩ room).putO n (.sl 1 (es ++ bytesE t.data.toList) none (.own (lblA room n)))) []) := of_eq_true (eq_self _)
@[simp] theorem xstepQ_eq (op : XOp) : xstepQ P ⟨d, op, none⟩ ⟨e, o, h, wr⟩ ld K = xop P d op ⟨e, o, h, wr⟩ fun s' l => hold s' fun s' => K s' (l ++ ld) := of_eq_true (eq_self _)
@[simp] theorem xstepQ_run (op : XOp) (g : Nat) (w : Bool) (hg : St.look ⟨e, o, h, wr⟩ g = .v (.bool w)) : xstepQ P ⟨d, op, some (g, w)⟩ ⟨e, o, h, wr⟩ ld K = xop P d op ⟨e, o, h, wr⟩ fun s' l => hold s' fun s' => K s' (l ++ ld) := by
  rw [xstepQ]; simp [xwant, hg, xguard]
@[simp] theorem xstepQ_skip (op : XOp) (g : Nat) (w : Bool) (hg : St.look ⟨e, o, h, wr⟩ g = .v (.bool (!w))) : xstepQ P ⟨d, op, some (g, w)⟩ ⟨e, o, h, wr⟩ ld K = hold (St.puts ⟨e, o, h, wr⟩ d (.v undef) false) fun s' => K s' ld := by
  rw [xstepQ]; cases w <;> simp [xwant, hg, xguard]
@[simp] theorem xstep_eq (op : XOp) : xstep P ⟨d, op, none⟩ ⟨e, o, h, wr⟩ ld K = xop P d op ⟨e, o, h, wr⟩ fun s' l => fresh ld ⟨e, o, h, wr⟩ s' ∧ hold s' fun s' => K s' (l ++ ld) := of_eq_true (eq_self _)
@[simp] theorem xstep_run (op : XOp) (g : Nat) (w : Bool) (hg : St.look ⟨e, o, h, wr⟩ g = .v (.bool w)) : xstep P ⟨d, op, some (g, w)⟩ ⟨e, o, h, wr⟩ ld K = xop P d op ⟨e, o, h, wr⟩ fun s' l => fresh ld ⟨e, o, h, wr⟩ s' ∧ hold s' fun s' => K s' (l ++ ld) := by
  rw [xstep]; simp [xwant, hg, xguard]
@[simp] theorem xstep_skip (op : XOp) (g : Nat) (w : Bool) (hg : St.look ⟨e, o, h, wr⟩ g = .v (.bool (!w))) : xstep P ⟨d, op, some (g, w)⟩ ⟨e, o, h, wr⟩ ld K = hold (St.puts ⟨e, o, h, wr⟩ d (.v undef) false) fun s' => K s' ld := by
  rw [xstep]; cases w <;> simp [xwant, hg, xguard]
@[simp] theorem xtree_done (k : St → Prop) : xtree P .done ⟨e, o, h, wr⟩ ld k = k ⟨e, o, h, wr⟩ := of_eq_true (eq_self _)
@[simp] theorem xtree_take (q : XOper) (t : XTree) (k : St → Prop) : xtree P (.take q t) ⟨e, o, h, wr⟩ ld k = xstepQ P q ⟨e, o, h, wr⟩ ld fun s' ld' => xtree P t s' ld' k := of_eq_true (eq_self _)
@[simp] theorem xtree_only (q : XOper) (t : XTree) (k : St → Prop) : xtree P (.only q t) ⟨e, o, h, wr⟩ ld k = xstep P q ⟨e, o, h, wr⟩ ld fun s' ld' => xtree P t s' ld' k := of_eq_true (eq_self _)
@[simp] theorem xtree_last (op : XOp) (k : St → Prop) : xtree P (.last ⟨d, op, none⟩) ⟨e, o, h, wr⟩ ld k = xop P d op ⟨e, o, h, wr⟩ fun s' _ => hold s' k := of_eq_true (eq_self _)
@[simp] theorem xtree_two (q p : XOper) (t u : XTree) (k : St → Prop) : xtree P (.two q p t u) ⟨e, o, h, wr⟩ ld k = ((xstep P q ⟨e, o, h, wr⟩ ld fun s' ld' => xtree P t s' ld' k) ∧ xstep P p ⟨e, o, h, wr⟩ ld fun s' ld' => xtree P u s' ld' k) := of_eq_true (eq_self _)
@[simp] theorem xtree_alt (q : XOper) (t u : XTree) (k : St → Prop) : xtree P (.alt q t u) ⟨e, o, h, wr⟩ ld k = ((xstep P q ⟨e, o, h, wr⟩ ld fun s' ld' => xtree P t s' ld' k) ∧ xtree P u ⟨e, o, h, wr⟩ ld k) := of_eq_true (eq_self _)

/-! ### Where a function stands -/
@[simp] theorem look_mk (t : Nat) : St.look ⟨e, o, h, wr⟩ t = (match find o t with
    | some a => a
    | none => match find e t with
      | some a => a
      | none => .any) := of_eq_true (eq_self _)
@[simp] theorem get_tmp (t : Nat) : St.get ⟨e, o, h, wr⟩ (.tmp t) = St.look ⟨e, o, h, wr⟩ t := of_eq_true (eq_self _)
@[simp] theorem get_const (v : Value) : St.get ⟨e, o, h, wr⟩ (.const v) = ofC v := of_eq_true (eq_self _)
@[simp] theorem get_func (f : FuncId) : St.get ⟨e, o, h, wr⟩ (.func f) = .fn (.func f) [] [] := of_eq_true (eq_self _)
@[simp] theorem mine_tmp (t : Nat) : St.mine ⟨e, o, h, wr⟩ (.tmp t) = (find o t).isSome := of_eq_true (eq_self _)
@[simp] theorem mine_const (v : Value) : St.mine ⟨e, o, h, wr⟩ (.const v) = false := of_eq_true (eq_self _)
@[simp] theorem mine_func (f : FuncId) : St.mine ⟨e, o, h, wr⟩ (.func f) = false := of_eq_true (eq_self _)
@[simp] theorem puts_none (a : AV) (w : Bool) : St.puts ⟨e, o, h, wr⟩ none a w = ⟨e, o, h, wr⟩ := of_eq_true (eq_self _)
@[simp] theorem puts_false (n : Nat) (a : AV) : St.puts ⟨e, o, h, wr⟩ (some n) a false = ⟨(n, a) :: e, drop n o, h, wr⟩ := of_eq_true (eq_self _)
@[simp] theorem puts_true (n : Nat) (a : AV) : St.puts ⟨e, o, h, wr⟩ (some n) a true = ⟨e, (n, a) :: drop n o, h, wr⟩ := of_eq_true (eq_self _)
@[simp] theorem put_mk (n : Nat) (a : AV) : St.put ⟨e, o, h, wr⟩ n a = ⟨(n, a) :: e, drop n o, h, wr⟩ := of_eq_true (eq_self _)
@[simp] theorem putO_mk (n : Nat) (a : AV) : St.putO ⟨e, o, h, wr⟩ n a = ⟨e, (n, a) :: drop n o, h, wr⟩ := of_eq_true (eq_self _)
@[simp] theorem kill_mk (p : Id → Bool) : St.kill ⟨e, o, h, wr⟩ p = ⟨e, killE p o, h, wr⟩ := of_eq_true (eq_self _)
@[simp] theorem find_nil (t : Nat) : find [] t = none := of_eq_true (eq_self _)
@[simp] theorem find_same (t : Nat) (a : AV) (r : List (Nat × AV)) : find ((t, a) :: r) t = some a := by simp [find]
@[simp] theorem find_other (k t : Nat) (a : AV) (r : List (Nat × AV)) (hk : k ≠ t) : find ((k, a) :: r) t = find r t := by simp [find, hk]
@[simp] theorem drop_nil (t : Nat) : drop t [] = [] := of_eq_true (eq_self _)
@[simp] theorem drop_same (t : Nat) (a : AV) (r : List (Nat × AV)) : drop t ((t, a) :: r) = drop t r := by simp [drop]
@[simp] theorem drop_other (k t : Nat) (a : AV) (r : List (Nat × AV)) (hk : k ≠ t) : drop t ((k, a) :: r) = (k, a) :: drop t r := by simp [drop, hk]
end
/-! ### Values -/
section
variable {c : Id} {x : Value} {i o k : Nat} {cs : List AV} {es : List (List AV)} {nul : Option Bool} {room : Room} {f : Fn} {a b : List AV}
@[simp] theorem unown_v : (AV.v x).unown = .v x := of_eq_true (eq_self _)
@[simp] theorem unown_any : AV.any.unown = .any := of_eq_true (eq_self _)
@[simp] theorem unown_box : (AV.box i o).unown = .box i o := of_eq_true (eq_self _)
@[simp] theorem unown_bsl {i off k n : Nat} : (AV.bsl i off k n).unown = .bsl i off k n := of_eq_true (eq_self _)
@[simp] theorem unown_ro : (AV.ro cs).unown = .ro cs := of_eq_true (eq_self _)
@[simp] theorem unown_no : (AV.sl k es nul .no).unown = .sl k es nul .no := of_eq_true (eq_self _)
@[simp] theorem unown_exact : (AV.sl k es nul .exact).unown = .sl k es nul .exact := of_eq_true (eq_self _)
@[simp] theorem unown_own : (AV.sl k es nul (.own c)).unown = .sl k es nul .no := of_eq_true (eq_self _)
@[simp] theorem unown_fn : (AV.fn f a b).unown = .fn f a b := of_eq_true (eq_self _)
@[simp] theorem unown_agg : (AV.agg cs).unown = .agg cs := of_eq_true (eq_self _)
@[simp] theorem unown_tup : (AV.tup cs).unown = .tup cs := of_eq_true (eq_self _)
@[simp] theorem id_v : (AV.v x).idOf = none := of_eq_true (eq_self _)
@[simp] theorem id_any : AV.any.idOf = none := of_eq_true (eq_self _)
@[simp] theorem id_box : (AV.box i o).idOf = none := of_eq_true (eq_self _)
@[simp] theorem id_bsl {i off k n : Nat} : (AV.bsl i off k n).idOf = none := of_eq_true (eq_self _)
@[simp] theorem id_ro : (AV.ro cs).idOf = none := of_eq_true (eq_self _)
@[simp] theorem id_no : (AV.sl k es nul .no).idOf = none := of_eq_true (eq_self _)
@[simp] theorem id_exact : (AV.sl k es nul .exact).idOf = none := of_eq_true (eq_self _)
@[simp] theorem id_own : (AV.sl k es nul (.own c)).idOf = some c := of_eq_true (eq_self _)
@[simp] theorem id_fn : (AV.fn f a b).idOf = none := of_eq_true (eq_self _)
@[simp] theorem id_agg : (AV.agg cs).idOf = none := of_eq_true (eq_self _)
@[simp] theorem id_tup : (AV.tup cs).idOf = none := of_eq_true (eq_self _)
@[simp] theorem one_v : (AV.v x).one = x.oneCell' := of_eq_true (eq_self _)
@[simp] theorem one_box : (AV.box i o).one = true := of_eq_true (eq_self _)
@[simp] theorem one_bsl {i off k n : Nat} : (AV.bsl i off k n).one = true := of_eq_true (eq_self _)
@[simp] theorem one_ro : (AV.ro cs).one = true := of_eq_true (eq_self _)
@[simp] theorem one_sl : (AV.sl k es nul room).one = true := of_eq_true (eq_self _)
@[simp] theorem one_fn : (AV.fn f a b).one = true := of_eq_true (eq_self _)
@[simp] theorem cells_agg : (AV.agg cs).cells = some cs := of_eq_true (eq_self _)
theorem cells_one {a : AV} (h : a.one = true) : a.cells = some [a] := by
  cases a with
  | agg cs => cases h
  | _ => simp [AV.cells, h]
@[simp] theorem cells_v (h : x.oneCell' = true) : (AV.v x).cells = some [.v x] := cells_one h
@[simp] theorem cells_box : (AV.box i o).cells = some [.box i o] := of_eq_true (eq_self _)
@[simp] theorem cells_bsl {i off k n : Nat} : (AV.bsl i off k n).cells = some [.bsl i off k n] := of_eq_true (eq_self _)
@[simp] theorem cells_ro : (AV.ro cs).cells = some [.ro cs] := of_eq_true (eq_self _)
@[simp] theorem cells_sl : (AV.sl k es nul room).cells = some [.sl k es nul room] := of_eq_true (eq_self _)
@[simp] theorem cells_fn : (AV.fn f a b).cells = some [.fn f a b] := of_eq_true (eq_self _)
@[simp] theorem one_int (k : IntKind) (n : Int) : (Value.int k n).oneCell' = true := of_eq_true (eq_self _)
@[simp] theorem one_bool (b : Bool) : (Value.bool b).oneCell' = true := of_eq_true (eq_self _)
@[simp] theorem one_str (s : ByteArray) : (Value.string s).oneCell' = true := of_eq_true (eq_self _)
@[simp] theorem one_ptr (p : Option Addr) : (Value.pointer p).oneCell' = true := of_eq_true (eq_self _)
@[simp] theorem relabel_own {d : Id} : (AV.sl k es nul (.own c)).relabel d = .sl k es nul (.own d) := of_eq_true (eq_self _)
@[simp] theorem killed_own (p : Id → Bool) : (AV.sl k es nul (.own c)).killed p = if p c then .sl k es nul .no else .sl k es nul (.own c) := of_eq_true (eq_self _)
@[simp] theorem killed_no (p : Id → Bool) : (AV.sl k es nul .no).killed p = .sl k es nul .no := of_eq_true (eq_self _)
@[simp] theorem killed_exact (p : Id → Bool) : (AV.sl k es nul .exact).killed p = .sl k es nul .exact := of_eq_true (eq_self _)
@[simp] theorem resOf_none {m : Nat} {a : AV} (h : a.idOf = none) : resOf m a = a := by
  cases a with
  | sl k es nul room => cases room <;> first | rfl | cases h
  | _ => rfl
@[simp] theorem resOf_slot {m n : Nat} : resOf m (.sl k es nul (.own (.slot n))) = .sl k es nul (.own .res) := of_eq_true (eq_self _)
@[simp] theorem resOf_arg {m n : Nat} : resOf m (.sl k es nul (.own (.arg n))) = .sl k es nul (.own .res) := of_eq_true (eq_self _)
@[simp] theorem resOf_cell {m j : Nat} : resOf m (.sl k es nul (.own (.cell i j))) = if i < m then .sl k es nul .no else .sl k es nul (.own .res) := of_eq_true (eq_self _)
@[simp] theorem resOf_res {m : Nat} : resOf m (.sl k es nul (.own .res)) = .sl k es nul (.own .res) := of_eq_true (eq_self _)
@[simp] theorem leqV_self (a : AV) : LeqV c a a := leqV_refl c a
@[simp] theorem weak_self (a : AV) : weak a a := weak_refl a
@[simp] theorem leqV_bsl_sl (i o k n k' : Nat) (es' : List (List AV)) (nul' : Option Bool) (room' : Room) : LeqV c (.bsl i o k n) (.sl k' es' nul' room') = (n = 0 ∧ es' = [] ∧ nul' ≠ some true ∧ room' = .no) := of_eq_true (eq_self _)
@[simp] theorem leqV_sl (k' : Nat) (es' : List (List AV)) (nul' : Option Bool) (room' : Room) : LeqV c (.sl k es nul room) (.sl k' es' nul' room') = (weakLL es es' ∧ (k = k' ∨ (es = [] ∧ room = .exact)) ∧ nulLe nul nul' ∧ (roomLe c room room' ∨ (nul = some true ∧ newRoom c room'))) := of_eq_true (eq_self _)
@[simp] theorem leqV_v (y : Value) (a : AV) : LeqV c a (.v y) = weak a (.v y) := of_eq_true (eq_self _)
@[simp] theorem leqV_box (a : AV) : LeqV c a (.box i o) = weak a (.box i o) := of_eq_true (eq_self _)
@[simp] theorem leqV_bsl {i off k n : Nat} (a : AV) : LeqV c a (.bsl i off k n) = weak a (.bsl i off k n) := of_eq_true (eq_self _)
@[simp] theorem leqV_ro (a : AV) : LeqV c a (.ro cs) = weak a (.ro cs) := of_eq_true (eq_self _)
@[simp] theorem leqV_fn (x : AV) : LeqV c x (.fn f a b) = weak x (.fn f a b) := of_eq_true (eq_self _)
@[simp] theorem leqV_agg (a : AV) : LeqV c a (.agg cs) = weak a (.agg cs) := of_eq_true (eq_self _)
@[simp] theorem leqV_tup (a : AV) : LeqV c a (.tup cs) = weak a (.tup cs) := of_eq_true (eq_self _)
@[simp] theorem fitA_self (n : Nat) {a : AV} (h : a.idOf = none) : fitA n a a := by
  unfold fitA
  cases a with
  | sl k es nul room =>
    refine ⟨weakLL_refl _, .inl rfl, nulLe_refl _, ?_⟩
    cases room <;> first | trivial | cases h
  | any => trivial
  | _ => exact weak_refl _
@[simp] theorem fitA_sl (n k' : Nat) (es' : List (List AV)) (nul' : Option Bool) (room' : Room) : fitA n (.sl k es nul room) (.sl k' es' nul' room') = (weakLL es es' ∧ (k = k' ∨ (es = [] ∧ room = .exact)) ∧ nulLe nul nul' ∧ roomFit n room room') := of_eq_true (eq_self _)
@[simp] theorem fitA_v (n : Nat) (y : Value) (a : AV) : fitA n a (.v y) = weak a (.v y) := of_eq_true (eq_self _)
@[simp] theorem fitA_box (n : Nat) (a : AV) : fitA n a (.box i o) = weak a (.box i o) := of_eq_true (eq_self _)
@[simp] theorem fitA_bsl {i off k m : Nat} (n : Nat) (a : AV) : fitA n a (.bsl i off k m) = weak a (.bsl i off k m) := of_eq_true (eq_self _)
@[simp] theorem fitA_ro (n : Nat) (a : AV) : fitA n a (.ro cs) = weak a (.ro cs) := of_eq_true (eq_self _)
@[simp] theorem fitA_fn (n : Nat) (x : AV) : fitA n x (.fn f a b) = weak x (.fn f a b) := of_eq_true (eq_self _)
@[simp] theorem fitA_agg (n : Nat) (a : AV) : fitA n a (.agg cs) = weak a (.agg cs) := of_eq_true (eq_self _)
@[simp] theorem fitA_tup (n : Nat) (a : AV) : fitA n a (.tup cs) = weak a (.tup cs) := of_eq_true (eq_self _)
@[simp] theorem hand_none {a b : AV} (h : b.idOf = none) : hand a b = b := by
  cases b with
  | sl k es nul room => cases room <;> first | rfl | cases h
  | _ => rfl
@[simp] theorem hand_own (k' : Nat) (es' : List (List AV)) (nul' : Option Bool) (d : Id) : hand (.sl k es nul (.own c)) (.sl k' es' nul' (.own d)) = .sl k' es' nul' (.own c) := of_eq_true (eq_self _)
@[simp] theorem hand_exact (k' : Nat) (es' : List (List AV)) (nul' : Option Bool) (d : Id) : hand (.sl k es nul .exact) (.sl k' es' nul' (.own d)) = .sl k' es' nul' (.own .res) := of_eq_true (eq_self _)
end
@[simp] theorem pickV_true (x : Value) (b : AV) : pickV true (.v x) b = .v x := by
  unfold pickV
  split <;> simp_all [AV.unown]
@[simp] theorem pickV_false (a : AV) (y : Value) : pickV false a (.v y) = .v y := by
  unfold pickV
  split <;> simp_all [AV.unown]
@[simp] theorem pickV_bool (t x y : Bool) : pickV t (.v (.bool x)) (.v (.bool y)) = .v (.bool (bif t then x else y)) := of_eq_true (eq_self _)
@[simp] theorem vLoad1_box (h : List (List AV)) (i o : Nat) : vLoad1 h (.box i o) = (match h[i]? with
    | some cs => match cs[o]? with
      | some a => ⟨True, a, a.idOf.isSome, [i]⟩
      | none => .bad
    | none => .bad) := rfl
@[simp] theorem vLoad1_ro (h : List (List AV)) (c : AV) (r : List AV) : vLoad1 h (.ro (c :: r)) = ⟨True, c.unown, false, []⟩ := of_eq_true (eq_self _)
@[simp] theorem vLoadN_box (h : List (List AV)) (n i o : Nat) : vLoadN h n (.box i o) = (match h[i]? with
    | some cs => ⟨o + n ≤ cs.length, .agg (((cs.drop o).take n).map AV.unown), false, [i]⟩
    | none => .bad) := rfl
@[simp] theorem vLoadN_ro (h : List (List AV)) {n : Nat} {cs : List AV} (hl : cs.length = n) (hu : cs.map AV.unown = cs) : vLoadN h n (.ro cs) = ⟨True, .agg cs, false, []⟩ := by
  unfold vLoadN
  subst hl
  simp [hu]
@[simp] theorem nulLe_none (n : Option Bool) : nulLe n none := by simp [nulLe]
@[simp] theorem nulLe_some (a b : Bool) : nulLe (some a) (some b) = (a = b) := of_eq_true (eq_self _)
/-! ### What goes along lists: each rule is a theorem of its own, so that nobody who checks has to go along them -/
@[simp] theorem r_killE_nil (p : Id → Bool) : killE p [] = [] := of_eq_true (eq_self _)
@[simp] theorem r_killE_cons (p : Id → Bool) (k : Nat) (a : AV) (r : List (Nat × AV)) : killE p ((k, a) :: r) = (k, a.killed p) :: killE p r := of_eq_true (eq_self _)
@[simp] theorem r_lt_v (n : Nat) (x : Value) : (AV.v x).lt n = True := of_eq_true (eq_self _)
@[simp] theorem r_lt_any (n : Nat) : AV.any.lt n = True := of_eq_true (eq_self _)
@[simp] theorem r_lt_box (n i o : Nat) : (AV.box i o).lt n = (i < n) := of_eq_true (eq_self _)
@[simp] theorem r_lt_bsl (n i o k m : Nat) : (AV.bsl i o k m).lt n = (i < n) := of_eq_true (eq_self _)
@[simp] theorem r_lt_yld (n i : Nat) (r : Loop) (c : Code) (a : List AV) : (AV.yld i r c a).lt n = (i < n ∧ ltL n a) := of_eq_true (eq_self _)
@[simp] theorem r_lt_ro (n : Nat) (cs : List AV) : (AV.ro cs).lt n = ltL n cs := of_eq_true (eq_self _)
@[simp] theorem r_lt_sl (n k : Nat) (es : List (List AV)) (nul : Option Bool) (room : Room) : (AV.sl k es nul room).lt n = ltLL n es := of_eq_true (eq_self _)
@[simp] theorem r_lt_fn (n : Nat) (f : Fn) (a b : List AV) : (AV.fn f a b).lt n = (ltL n a ∧ ltL n b) := of_eq_true (eq_self _)
@[simp] theorem r_lt_agg (n : Nat) (cs : List AV) : (AV.agg cs).lt n = ltL n cs := of_eq_true (eq_self _)
@[simp] theorem r_lt_tup (n : Nat) (cs : List AV) : (AV.tup cs).lt n = ltL n cs := of_eq_true (eq_self _)
@[simp] theorem r_ltL_nil (n : Nat) : ltL n [] = True := of_eq_true (eq_self _)
@[simp] theorem r_ltL_cons (n : Nat) (a : AV) (r : List AV) : ltL n (a :: r) = (a.lt n ∧ ltL n r) := of_eq_true (eq_self _)
@[simp] theorem r_ltLL_nil (n : Nat) : ltLL n [] = True := of_eq_true (eq_self _)
@[simp] theorem r_ltLL_cons (n : Nat) (a : List AV) (r : List (List AV)) : ltLL n (a :: r) = (ltL n a ∧ ltLL n r) := of_eq_true (eq_self _)
@[simp] theorem r_lay_nil {α : Type} (cs : List α) (o : Nat) : lay cs o [] = cs := of_eq_true (eq_self _)
@[simp] theorem r_lay_cons {α : Type} (cs : List α) (o : Nat) (a : α) (r : List α) : lay cs o (a :: r) = lay (cs.set o a) (o + 1) r := of_eq_true (eq_self _)
@[simp] theorem r_fillX_nil (cs : List AV) : fillX cs [] = some cs := of_eq_true (eq_self _)
@[simp] theorem r_fillX_cons (cs : List AV) (off size : Nat) (a : AV) (r : List (Nat × Nat × AV)) : fillX cs ((off, size, a) :: r) = (match a.cells with | some l => if l.length = size ∧ off + size ≤ cs.length then fillX (lay cs off (l.map AV.unown)) r else none | none => none) := of_eq_true (eq_self _)
@[simp] theorem r_chunk_zero (k : Nat) (l : List AV) : chunk k 0 l = [] := of_eq_true (eq_self _)
@[simp] theorem r_chunk_succ (k n : Nat) (l : List AV) : chunk k (n + 1) l = l.take k :: chunk k n (l.drop k) := of_eq_true (eq_self _)
@[simp] theorem r_chunk_one (k : Nat) (l : List AV) : chunk k 1 l = [l.take k] := of_eq_true (eq_self _)
@[simp] theorem r_rep_zero (k : Nat) (z : List AV) : rep k z 0 = [] := of_eq_true (eq_self _)
@[simp] theorem r_rep_succ (k n : Nat) (z : List AV) : rep k z (n + 1) = z ++ rep k z n := of_eq_true (eq_self _)
@[simp] theorem r_unbytes_nil  : unbytes [] = some [] := of_eq_true (eq_self _)
@[simp] theorem r_maxL_nil  : maxL [] = none := of_eq_true (eq_self _)
@[simp] theorem r_minL_nil  : minL [] = none := of_eq_true (eq_self _)
def minZ (x : Int) (r : List Int) : Int := r.foldl (fun m y => if y < m then y else m) x
@[simp] theorem r_minL_cons (x : Int) (r : List Int) : minL (x :: r) = some (minZ x r) := of_eq_true (eq_self _)
def maxZ (x : Int) (r : List Int) : Int := r.foldl (fun m y => if y > m then y else m) x
@[simp] theorem r_maxL_cons (x : Int) (r : List Int) : maxL (x :: r) = some (maxZ x r) := of_eq_true (eq_self _)
@[simp] theorem maxZ_le {n : Int} : ∀ (x : Int) (r : List Int), maxZ x r ≤ n ↔ x ≤ n ∧ ∀ y ∈ r, y ≤ n
  | x, [] => by simp [maxZ]
  | x, y :: r => by
    have ih := maxZ_le (n := n) (if y > x then y else x) r
    have e : maxZ x (y :: r) = maxZ (if y > x then y else x) r := rfl
    rw [e, ih, List.forall_mem_cons]
    split
    · exact ⟨fun h => ⟨by omega, h⟩, fun h => h.2⟩
    · exact ⟨fun h => ⟨h.1, by omega, h.2⟩, fun h => ⟨h.1, h.2.2⟩⟩
@[simp] theorem r_eqCs_nil  : eqCs [] [] [] = some true := of_eq_true (eq_self _)
@[simp] theorem r_eqCs_cons (t : Nat) (ts : List Nat) (a b : AV) (r q : List AV) : eqCs (t :: ts) (a :: r) (b :: q) = (match eqK t a b, eqCs ts r q with | some x, some y => some (x && y) | _, _ => none) := of_eq_true (eq_self _)
@[simp] theorem r_allOk_nil (s : St) : allOk s [] = True := of_eq_true (eq_self _)
@[simp] theorem r_allOk_cons (s : St) (x : XOp) (r : List XOp) : allOk s (x :: r) = ((xval s x).ok ∧ allOk s r) := of_eq_true (eq_self _)
@[simp] theorem r_enterL_nil (own : Bool) (i : Nat) : enterL own i [] = [] := of_eq_true (eq_self _)
@[simp] theorem r_enterL_cons (own : Bool) (i : Nat) (a : AV) (r : List AV) : enterL own i (a :: r) = (bif a.idOf.isSome == own then (i, a) :: enterL own (i + 1) r else enterL own (i + 1) r) := of_eq_true (eq_self _)
@[simp] theorem r_weak_sl (k k' : Nat) (es es' : List (List AV)) (nul nul' : Option Bool) (room room' : Room) : weak (.sl k es nul room) (.sl k' es' nul' room') = ((k = k' ∨ (es = [] ∧ room' = .no)) ∧ weakLL es es' ∧ nulLe nul nul' ∧ (room' = .no ∨ room' = room)) := of_eq_true (eq_self _)
@[simp] theorem r_weak_agg (cs ds : List AV) : weak (.agg cs) (.agg ds) = weakL cs ds := of_eq_true (eq_self _)
@[simp] theorem r_weak_tup (cs ds : List AV) : weak (.tup cs) (.tup ds) = weakL cs ds := of_eq_true (eq_self _)
@[simp] theorem r_weak_ro (cs ds : List AV) : weak (.ro cs) (.ro ds) = weakL cs ds := of_eq_true (eq_self _)
@[simp] theorem r_weak_fn (f f' : Fn) (a b a' b' : List AV) : weak (.fn f a b) (.fn f' a' b') = (f = f' ∧ weakL a a' ∧ weakL b b') := of_eq_true (eq_self _)
@[simp] theorem r_weak_v (x y : Value) : weak (.v x) (.v y) = (x = y) := of_eq_true (eq_self _)
@[simp] theorem r_weak_box (i o j p : Nat) : weak (.box i o) (.box j p) = (i = j ∧ o = p) := of_eq_true (eq_self _)
@[simp] theorem r_weak_bsl_sl (i o k n k' : Nat) (es : List (List AV)) (nul : Option Bool) (room : Room) : weak (.bsl i o k n) (.sl k' es nul room) = (n = 0 ∧ es = [] ∧ nul ≠ some true ∧ room = .no) := of_eq_true (eq_self _)
@[simp] theorem r_weak_bsl (i o k n j p k' n' : Nat) : weak (.bsl i o k n) (.bsl j p k' n') = (i = j ∧ o = p ∧ k = k' ∧ n = n') := of_eq_true (eq_self _)
@[simp] theorem r_lt_ifc (n : Nat) (t : TypeId) (a : AV) : (AV.ifc t a).lt n = a.lt n := of_eq_true (eq_self _)
@[simp] theorem r_lt_itr0 (k i n : Nat) (o : Bool) : (AV.itr i none n o).lt k = (i < k ∧ True) := of_eq_true (eq_self _)
@[simp] theorem r_lt_itr1 (k i j n : Nat) (o : Bool) : (AV.itr i (some j) n o).lt k = (i < k ∧ j < k) := of_eq_true (eq_self _)
@[simp] theorem r_weak_itr (i n j m : Nat) (im jm : Option Nat) (o p : Bool) : weak (.itr i im n o) (.itr j jm m p) = (i = j ∧ im = jm ∧ n = m ∧ o = p) := of_eq_true (eq_self _)
@[simp] theorem r_lt_mp (k i n : Nat) (o : Bool) : (AV.mp i n o).lt k = (i < k) := of_eq_true (eq_self _)
@[simp] theorem r_weak_mp (i n j m : Nat) (o p : Bool) : weak (.mp i n o) (.mp j m p) = (i = j ∧ n = m ∧ o = p) := of_eq_true (eq_self _)
@[simp] theorem r_weak_yld (i j : Nat) (r r' : Loop) (c c' : Code) (a b : List AV) : weak (.yld i r c a) (.yld j r' c' b) = (i = j ∧ r = r' ∧ c = c' ∧ weakL a b) := of_eq_true (eq_self _)
@[simp] theorem r_weakL_nil  : weakL [] [] = True := of_eq_true (eq_self _)
@[simp] theorem r_weakL_cons (a b : AV) (r q : List AV) : weakL (a :: r) (b :: q) = (weak a b ∧ weakL r q) := of_eq_true (eq_self _)
@[simp] theorem r_weakLL_nil  : weakLL [] [] = True := of_eq_true (eq_self _)
@[simp] theorem r_weakLL_cons (a b : List AV) (r q : List (List AV)) : weakLL (a :: r) (b :: q) = (weakL a b ∧ weakLL r q) := of_eq_true (eq_self _)
@[simp] theorem r_leqC_nil (i j : Nat) : leqC i j [] [] = True := of_eq_true (eq_self _)
@[simp] theorem r_leqC_cons (i j : Nat) (a b : AV) (r q : List AV) : leqC i j (a :: r) (b :: q) = (LeqV (.cell i j) a b ∧ leqC i (j + 1) r q) := of_eq_true (eq_self _)
@[simp] theorem r_leqH_nil (i : Nat) : leqH i [] [] = True := of_eq_true (eq_self _)
@[simp] theorem r_leqH_cons (i : Nat) (a b : List AV) (r q : List (List AV)) : leqH i (a :: r) (b :: q) = ((a = b ∨ leqC i 0 a b) ∧ leqH (i + 1) r q) := of_eq_true (eq_self _)
@[simp] theorem r_leqO_nil (s : St) (n : Nat) : leqO s n [] = True := of_eq_true (eq_self _)
@[simp] theorem r_leqO_cons (s : St) (n : Nat) (p : Nat × AV) (r : List (Nat × AV)) : leqO s n (p :: r) = ((LeqV (.slot p.1) (s.look p.1) p.2 ∧ p.2.lt n) ∧ leqO s n r) := of_eq_true (eq_self _)
@[simp] theorem r_leqE_nil (s : St) (n : Nat) : leqE s n [] = True := of_eq_true (eq_self _)
@[simp] theorem r_leqE_cons (s : St) (n : Nat) (p : Nat × AV) (r : List (Nat × AV)) : leqE s n (p :: r) = ((LeqV (.slot p.1) (s.look p.1) p.2 ∧ p.2.idOf = none ∧ p.2.lt n) ∧ leqE s n r) := of_eq_true (eq_self _)
@[simp] theorem r_fitL_nil (i : Nat) : fitL i [] [] = True := of_eq_true (eq_self _)
@[simp] theorem r_fitL_cons (i : Nat) (a b : AV) (r q : List AV) : fitL i (a :: r) (b :: q) = (fitA i a b ∧ fitL (i + 1) r q) := of_eq_true (eq_self _)
@[simp] theorem r_handL_nil  : handL [] [] = [] := of_eq_true (eq_self _)
@[simp] theorem r_handL_cons (a b : AV) (r q : List AV) : handL (a :: r) (b :: q) = hand a b :: handL r q := of_eq_true (eq_self _)
@[simp] theorem r_idsOf_nil  : idsOf [] = [] := of_eq_true (eq_self _)
@[simp] theorem r_idsOf_cons (a : AV) (r : List AV) : idsOf (a :: r) = (match a.idOf with | some c => if c.isCell then idsOf r else c :: idsOf r | none => idsOf r) := of_eq_true (eq_self _)
attribute [simp] St.called St.calledU St.assigned St.stored St.storedAt St.strip St.stripR roomOk
attribute [simp] ofC ofC1
attribute [simp] intOfV int64V cutAt vPick vBuild vNil binV binOk vBin vBeq vNilEq vPnil vInil eqK vAeq vB2s unbytes_bytesE vUn vConv vSame vSlice vSliceS vFaddr vIaddr vIaddrA vIdxS vExtract vFld vLenS vLenL vMax vMin xval
attribute [simp] kret leave xres enter roomLe roomFit killedBy Id.isCell Id.isNew lblR lblA newRoom St.sorted St.calm plainE anyO plainA
attribute [simp] leqH_refl weakL_refl weakLL_refl weakLL_append_same nulLe_refl ltL_append ltLL_append ltLL_bytes fresh Val.of Val.bad
section
variable {i : Nat} {r : Loop} {c : Code} {l : List AV}
@[simp] theorem unown_itr {im : Option Nat} {n : Nat} {o : Bool} : (AV.itr i im n o).unown = .itr i im n o := rfl
@[simp] theorem id_itr {im : Option Nat} {n : Nat} {o : Bool} : (AV.itr i im n o).idOf = none := rfl
@[simp] theorem one_itr {im : Option Nat} {n : Nat} {o : Bool} : (AV.itr i im n o).one = true := rfl
@[simp] theorem leqV_itr {d : Id} {im : Option Nat} {n : Nat} {o : Bool} (a : AV) : LeqV d a (.itr i im n o) = weak a (.itr i im n o) := rfl
@[simp] theorem fitA_itr (k : Nat) {im : Option Nat} {n : Nat} {o : Bool} (a : AV) : fitA k a (.itr i im n o) = weak a (.itr i im n o) := rfl
@[simp] theorem unown_mp {n : Nat} {o : Bool} : (AV.mp i n o).unown = .mp i n o := rfl
@[simp] theorem id_mp {n : Nat} {o : Bool} : (AV.mp i n o).idOf = none := rfl
@[simp] theorem one_mp {n : Nat} {o : Bool} : (AV.mp i n o).one = true := rfl
@[simp] theorem cells_mp {n : Nat} {o : Bool} : (AV.mp i n o).cells = some [.mp i n o] := rfl
@[simp] theorem leqV_mp {d : Id} {n : Nat} {o : Bool} (a : AV) : LeqV d a (.mp i n o) = weak a (.mp i n o) := rfl
@[simp] theorem fitA_mp (k : Nat) {n : Nat} {o : Bool} (a : AV) : fitA k a (.mp i n o) = weak a (.mp i n o) := rfl
@[simp] theorem unown_yld : (AV.yld i r c l).unown = .yld i r c l := rfl
@[simp] theorem id_yld : (AV.yld i r c l).idOf = none := rfl
@[simp] theorem leqV_yld {d : Id} (a : AV) : LeqV d a (.yld i r c l) = weak a (.yld i r c l) := rfl
@[simp] theorem fitA_yld (n : Nat) (a : AV) : fitA n a (.yld i r c l) = weak a (.yld i r c l) := rfl
end
end Go.Proofs.YtofkddajlgebjaaGreat.Ax
/- What must hold for less, holds for more; a text cut in two. No program is named here. -/
namespace Go.Proofs.YtofkddajlgebjaaGreat.Ax
open Go.RowKit Go By

section
variable {P : Program} {m : Frm}
theorem onSome_mono {α : Type} {o : Option α} {k k' : α → Prop} (hk : ∀ a, k a → k' a) (h : onSome o k) : onSome o k' := by
  cases o with
  | none => exact h
  | some a => exact hk a h
theorem xnext_mono {s : St} {d : Option Nat} {v : AV} {K K' : St → Prop} (hK : ∀ s, K s → K' s) (h : xnext s d v K) : xnext s d v K' := by
  unfold xnext at h ⊢
  split at h
  · exact hK _ h
  · exact onSome_mono (fun q h => onSome_mono (fun p h => ⟨h.1, h.2.1, h.2.2.1, fun hh => hK _ (h.2.2.2.1 hh), fun a ha hn => hK _ (h.2.2.2.2 a ha hn)⟩) h) h
  · exact h.elim
theorem xcall_mono {f : FuncId} {args : List AV} {s : St} {d : Option Nat} {K K' : St → List Nat → Prop} (hK : ∀ s l, K s l → K' s l) (h : xcall P f args s d K) : xcall P f args s d K' := by
  rcases h with h | h
  · obtain ⟨bs, r, h', wr, h1, h2, h3, h4⟩ := h
    exact .inl ⟨bs, r, h', wr, h1, h2, h3, hK _ _ h4⟩
  · obtain ⟨bs, r, h', wr, hh, h0, h1, h2, h3, h4⟩ := h
    exact .inr ⟨bs, r, h', wr, hh, h0, h1, h2, h3, hK _ _ h4⟩
theorem xop_mono {d : Option Nat} {op : XOp} {s : St} {K K' : St → List Nat → Prop} (hK : ∀ s l, K s l → K' s l) (h : xop P d op s K) : xop P d op s K' := by
  cases op with
  | assign x => cases d with
    | none => exact h
    | some d => exact hK _ _ h
  | alloc z => exact hK _ _ h
  | box x => exact onSome_mono (fun _ h => hK _ _ h) h
  | buildSlice k len z parts => exact onSome_mono (fun _ h => hK _ _ h) h
  | store n p x => exact onSome_mono (fun _ h => hK _ _ h) h
  | append k b a x => exact xappendA_mono hK h
  | appendN k b x =>
    rcases h with h | h
    · exact .inl (xappendA_mono hK h)
    · refine .inr ?_
      unfold xappendBox at h ⊢
      split at h
      · exact ⟨h.1, h.2.1, h.2.2.1, h.2.2.2.1, h.2.2.2.2.1, hK _ _ h.2.2.2.2.2⟩
      · exact h.elim
  | s2b x =>
    unfold xop xs2b at h ⊢
    dsimp only at h ⊢
    split at h
    · exact ⟨h.1, hK _ _ h.2⟩
    · exact h.elim
  | appendS a x =>
    unfold xop xappendS at h ⊢
    dsimp only at h ⊢
    split at h
    · exact ⟨h.1, h.2.1, hK _ _ h.2.2⟩
    · exact h.elim
  | makeMap n one => exact hK _ _ h
  | emptyS k => exact hK _ _ h
  | clearM n one x =>
    unfold xop xclearM at h ⊢
    dsimp only at h ⊢
    split at h
    · exact hK _ _ h
    · exact ⟨h.1, onSome_mono (fun _ h => hK _ _ h) h.2⟩
    · exact h.elim
  | copyB x y =>
    unfold xop xcopy at h ⊢
    dsimp only at h ⊢
    split at h
    · exact ⟨h.1, onSome_mono (fun _ h => ⟨h.1, onSome_mono (fun _ h => ⟨h.1, hK _ _ h.2⟩) h.2⟩) h.2⟩
    · exact h.elim
  | clearS k z x =>
    unfold xop xclear at h ⊢
    dsimp only at h ⊢
    split at h
    · exact ⟨h.1, hK _ _ h.2⟩
    · exact ⟨h.1, onSome_mono (fun _ h => ⟨h.1, hK _ _ h.2⟩) h.2⟩
    · exact h.elim
  | makeS k bytes c =>
    unfold xop xmakeS at h ⊢
    dsimp only at h ⊢
    split at h
    · exact ⟨h.1, h.2.1, h.2.2.1, hK _ _ h.2.2.2⟩
    · exact h.elim
  | makeB k bytes z c =>
    unfold xop xmakeB at h ⊢
    dsimp only at h ⊢
    split at h
    · exact ⟨h.1, h.2.1, h.2.2.1, hK _ _ h.2.2.2⟩
    · exact h.elim
  | mapUpd ks n one m k x =>
    unfold xop xmapUpd at h ⊢
    dsimp only at h ⊢
    split at h
    · exact ⟨h.1, h.2.1, onSome_mono (fun _ h => ⟨h.1, onSome_mono (fun _ h => hK _ _ h) h.2⟩) h.2.2⟩
    · exact h.elim
  | mapDel ks n one m k =>
    unfold xop xmapDel at h ⊢
    dsimp only at h ⊢
    split at h
    · exact ⟨h.1, hK _ _ h.2⟩
    · exact ⟨h.1, h.2.1, onSome_mono (fun _ h => ⟨h.1, hK _ _ h.2⟩) h.2.2⟩
    · exact h.elim
  | rangeM n one x =>
    unfold xop xrangeM at h ⊢
    dsimp only at h ⊢
    split at h
    · exact hK _ _ h
    · exact ⟨h.1, onSome_mono (fun _ h => hK _ _ h) h.2⟩
    · exact h.elim
  | call f args => exact xcall_mono hK h
  | callv x args =>
    unfold xop xcallv at h ⊢
    dsimp only at h ⊢
    split at h
    · exact ⟨h.1, xcall_mono hK h.2⟩
    · exact h.elim
  | _ => exact ⟨h.1, hK _ _ h.2⟩
theorem xopL_mono {d : Option Nat} {op : XOp} {s : St} {K K' : St → List Nat → Prop} (hK : ∀ s l, K s l → K' s l) (h : xopL P d op s K) : xopL P d op s K' := by
  cases op with
  | callv x args =>
    unfold xopL xcallvL at h ⊢
    dsimp only at h ⊢
    split at h
    · rename_i i r c slots hg
      obtain ⟨bs, res, h', wr, h1, h2, h3, h4⟩ := h
      exact ⟨bs, res, h', wr, h1, h2, h3, hK _ _ h4⟩
    · exact xop_mono (op := .callv x args) hK h
  | _ => rw [xopL_plain (fun y args e => by cases e)] at h ⊢; exact xop_mono hK h
theorem xguard_mono {α : Option Bool} {A A' B B' : Prop} (ha : A → A') (hb : B → B') (h : xguard α A B) : xguard α A' B' := by
  unfold xguard at h ⊢
  split at h
  · exact ha h
  · exact hb h
  · exact h
theorem xops_mono : ∀ {xs : List XOper} {s : St} {ld : List Nat} {K K' : St → List Nat → Prop}, (∀ s l, K s l → K' s l) → xops P xs s ld K → xops P xs s ld K'
  | [], s, ld, K, K', hK, h => hK _ _ h
  | o :: r, s, ld, K, K', hK, h => by
    unfold xops at h ⊢
    exact xguard_mono (fun h => xopL_mono (fun s l h => xops_mono hK h) h) (fun h => xops_mono hK h) h
theorem xtree_mono : ∀ {t : XTree} {s : St} {ld : List Nat} {K K' : St → Prop}, (∀ s, K s → K' s) → xtree P t s ld K → xtree P t s ld K'
  | .done, s, ld, K, K', hK, h => hK _ h
  | .take o t, s, ld, K, K', hK, h => by
    unfold xtree xstepQ at h ⊢
    exact xguard_mono (fun h => xop_mono (fun s l h => xtree_mono hK h) h) (fun h => xtree_mono hK h) h
  | .only o t, s, ld, K, K', hK, h => by
    unfold xtree xstep at h ⊢
    exact xguard_mono (fun h => xop_mono (fun s l h => ⟨h.1, xtree_mono hK h.2⟩) h) (fun h => xtree_mono hK h) h
  | .last o, s, ld, K, K', hK, h => by
    unfold xtree at h ⊢
    exact xguard_mono (fun h => xop_mono (fun s l h => hK _ h) h) (fun h => hK _ h) h
  | .two o p t u, s, ld, K, K', hK, h => by
    unfold xtree xstep at h ⊢
    exact ⟨xguard_mono (fun h => xop_mono (fun s l h => ⟨h.1, xtree_mono hK h.2⟩) h) (fun h => xtree_mono hK h) h.1, xguard_mono (fun h => xop_mono (fun s l h => ⟨h.1, xtree_mono hK h.2⟩) h) (fun h => xtree_mono hK h) h.2⟩
  | .alt o t u, s, ld, K, K', hK, h => by
    unfold xtree xstep at h ⊢
    exact ⟨xguard_mono (fun h => xop_mono (fun s l h => ⟨h.1, xtree_mono hK h.2⟩) h) (fun h => xtree_mono hK h) h.1, xtree_mono hK h.2⟩
theorem then_mono {k k' : St → Prop} {K K' : XExit → St → Prop} (hk : ∀ s, k s → k' s) (hK : ∀ e s, K e s → K' e s) : ∀ e s, XExit.then k K e s → XExit.then k' K' e s
  | .normal, s, h => hk s h
  | .exit _, s, h => hK _ s h
  | .ret, s, h => hK _ s h
theorem xwp_mono : ∀ {c : XCode} {s : St} {K K' : XExit → St → Prop}, (∀ e s, K e s → K' e s) → xwp P m c s K → xwp P m c s K'
  | .skip, s, K, K', hK, h => hK _ _ h
  | .ops xs, s, K, K', hK, h => xops_mono (fun s _ h => hK _ s h) h
  | .draws t, s, K, K', hK, h => xtree_mono (fun s h => hK _ s h) h
  | .seq a b, s, K, K', hK, h => xwp_mono (c := a) (then_mono (fun s h => xwp_mono (c := b) hK h) hK) h
  | .cond x a b, s, K, K', hK, h => by
    unfold xwp xcond at h ⊢
    split at h
    · exact ⟨fun e => xwp_mono hK (h.1 e), fun e => xwp_mono hK (h.2 e)⟩
    · exact h.elim
  | .block id a, s, K, K', hK, h => by
    refine xwp_mono (c := a) (fun e s h => ?_) h
    cases e with
    | normal => exact hK _ _ h
    | ret => exact hK _ _ h
    | exit i =>
      unfold XExit.inBlock at h ⊢
      dsimp only at h ⊢
      split at h
      · rename_i e; rw [if_pos e]; exact hK _ _ h
      · rename_i e; rw [if_neg e]; exact hK _ _ h
  | .loop a, s, K, K', hK, h => by
    obtain ⟨D, inv, μ, h1, h2⟩ := h
    exact ⟨D, inv, μ, h1, fun d => xwp_mono (c := a) (then_mono (fun s h => h) hK) (h2 d)⟩
  | .range x ps a b, s, K, K', hK, h => by
    obtain ⟨h1, h2, g, cap, n, xs, all, R, e, H, wr, h3, E, q1, q2, q3, q4, q5, q6, q7, q8, q9, q10, q11⟩ := h
    exact ⟨h1, h2, g, cap, n, xs, all, R, e, H, wr, h3, E, q1, q2, q3, q4, q5, q6, q7, q8, q9, fun ha => hK _ _ (q10 ha), fun ha => ⟨(q11 ha).1, hK _ _ (q11 ha).2⟩⟩
  | .exit id, s, K, K', hK, h => hK _ _ h
  | .ret, s, K, K', hK, h => hK _ _ h
  | .cut a, s, K, K', hK, h => by
    obtain ⟨s2, h1, h2⟩ := h
    exact ⟨s2, h1, xwp_mono (c := a) hK h2⟩
  | .mark a, s, K, K', hK, h => xwp_mono (c := a) hK h
  | .nexts d x xs, s, K, K', hK, h => xnext_mono (fun s h => xops_mono (fun s _ h => hK _ s h) h) h
  | .sortr t d e g, s, K, K', hK, h => by
    obtain ⟨us, us', k, nul, room, h1, h2, h3, h4, h5, h6⟩ := h
    exact ⟨us, us', k, nul, room, h1, h2, h3, h4, h5, hK _ _ h6⟩
  | .sortf t d x d2 e g, s, K, K', hK, h => by
    obtain ⟨us, us', k, nul, room, h1, h2, h3, h4, h5, h6, h7⟩ := h
    exact ⟨us, us', k, nul, room, h1, h2, h3, h4, h5, h6, hK _ _ h7⟩
/-- A text in two parts: what is known between them. -/
theorem xseq_cut {a b : XCode} {s : St} {K : XExit → St → Prop} (s2 : St) (ha : xwp P m a s (XExit.then (fun s' => Leq m.h.length s' s2) K)) (hb : xwp P m b s2 K) : xwp P m (.mark (.seq a (.cut b))) s K :=
  xwp_mono (c := a) (then_mono (fun _ h => ⟨s2, .inl h, hb⟩) fun _ _ h => h) ha
/-- .. where variable i is not written any more. -/
theorem xseq_frz {a b : XCode} {s : St} {K : XExit → St → Prop} (i : Nat) (cs : List AV) (s2 : St) (hi : m.h.length ≤ i) (hne : frzOk cs) (ha : xwp P m a s (XExit.then (fun s' => s'.heap[i]? = some cs ∧ Leq m.h.length (s'.frz i cs) s2) K)) (hb : xwp P m b s2 K) : xwp P m (.mark (.seq a (.cut b))) s K :=
  xwp_mono (c := a) (then_mono (fun _ h => ⟨s2, .inr ⟨i, cs, hi, h.1, hne, h.2⟩, hb⟩) fun _ _ h => h) ha
end
end Go.Proofs.YtofkddajlgebjaaGreat.Ax
/- Lists as elements; contracts out of what is known of calls in memory; loops. No program is named here. -/
namespace Go.Proofs.YtofkddajlgebjaaGreat.Ax
open Go.RowKit Go By

/-! ### Lists as elements -/
def enc {α : Type} (f : α → List AV) (l : List α) : List (List AV) := l.map f
section
variable {α : Type} (f : α → List AV)
@[simp] theorem enc_nil : enc f [] = [] := rfl
@[simp] theorem enc_cons (x : α) (l : List α) : enc f (x :: l) = f x :: enc f l := rfl
@[simp] theorem enc_append (l m : List α) : enc f (l ++ m) = enc f l ++ enc f m := by simp [enc]
@[simp] theorem enc_length (l : List α) : (enc f l).length = l.length := by simp [enc]
@[simp] theorem enc_getElem (l : List α) (j : Nat) (hj : j < (enc f l).length) : (enc f l)[j] = f (l[j]'(by simpa using hj)) := by simp [enc]
@[simp] theorem enc_eq_nil (l : List α) : enc f l = [] ↔ l = [] := by simp [enc]
theorem enc_take (l : List α) (n : Nat) : (enc f l).take n = enc f (l.take n) := by simp [enc]
theorem enc_drop (l : List α) (n : Nat) : (enc f l).drop n = enc f (l.drop n) := by simp [enc]
theorem ltLL_enc (n : Nat) (h : ∀ x, ltL n (f x)) : ∀ l : List α, ltLL n (enc f l)
  | [] => trivial
  | x :: l => ⟨h x, ltLL_enc n h l⟩
theorem take_next {l : List α} {j : Nat} (hj : j < l.length) : l.take (j + 1) = l.take j ++ [l[j]] := by
  rw [List.take_add_one, List.getElem?_eq_getElem hj]; rfl
end
@[simp] theorem bytesE_nil : bytesE [] = [] := rfl
@[simp] theorem bytesE_cons (x : UInt8) (l : List UInt8) : bytesE (x :: l) = [.v (.int .u8 (x.toNat : Int))] :: bytesE l := rfl
@[simp] theorem bytesE_append (l m : List UInt8) : bytesE (l ++ m) = bytesE l ++ bytesE m := by simp [bytesE]
@[simp] theorem bytesE_length (l : List UInt8) : (bytesE l).length = l.length := by simp [bytesE]
@[simp] theorem bytesE_eq_nil (l : List UInt8) : bytesE l = [] ↔ l = [] := by simp [bytesE]
theorem bytesE_take (l : List UInt8) (n : Nat) : (bytesE l).take n = bytesE (l.take n) := by simp [bytesE]
theorem bytesE_drop (l : List UInt8) (n : Nat) : (bytesE l).drop n = bytesE (l.drop n) := by simp [bytesE]
def intC (n : Int) : List AV := [.v (.int .i64 n)]
def strC (s : List UInt8) : List AV := [.v (.string (strB s))]
@[simp] theorem strB_data (xs : List UInt8) : (strB xs).data.toList = xs := by simp [strB]
@[simp] theorem strB_sz (xs : List UInt8) : (strB xs).size = xs.length := strB_size xs
@[simp] theorem strB_list (xs : List UInt8) : (strB xs).toList = xs := strB_toList xs
@[simp] theorem ltLL_ints (n : Nat) (l : List Int) : ltLL n (enc intC l) := ltLL_enc intC n (fun _ => ⟨trivial, trivial⟩) l
@[simp] theorem ltLL_strs (n : Nat) (l : List (List UInt8)) : ltLL n (enc strC l) := ltLL_enc strC n (fun _ => ⟨trivial, trivial⟩) l

/-! ### Variables -/
theorem ltLL_set {n : Nat} {h : List (List AV)} (hh : ltLL n h) {i : Nat} {cs : List AV} (hc : ltL n cs) : ltLL n (h.set i cs) :=
  ltLL_of' fun j e he => by
    rw [List.getElem?_set] at he
    split at he
    · split at he
      · injection he with he; subst he; exact hc
      · cases he
    · exact ltLL_get hh j e he
theorem leqH_set {h : List (List AV)} {i : Nat} {a b : List AV} (hab : leqC i 0 a b) : leqH 0 (h.set i a) (h.set i b) := by
  have key : ∀ (h : List (List AV)) (k i : Nat), leqC (k + i) 0 a b → leqH k (h.set i a) (h.set i b) := fun h => by
    induction h with
    | nil => intro k i _; trivial
    | cons c r ih =>
      intro k i hh
      cases i with
      | zero => exact ⟨.inr hh, leqH_refl r _⟩
      | succ i => exact ⟨.inl rfl, ih (k + 1) i (by rw [show k + 1 + i = k + (i + 1) by omega]; exact hh)⟩
  exact key h 0 i (by rw [Nat.zero_add]; exact hab)
@[simp] theorem leqH_set_iff (h : List (List AV)) (i : Nat) (hi : i < h.length) (a b : List AV) : leqH 0 (h.set i a) (h.set i b) ↔ a = b ∨ leqC i 0 a b := by
  constructor
  · intro hh
    obtain ⟨_, h2⟩ := leqH_get hh
    right
    obtain ⟨cs, h3, h4, h5⟩ := h2 i b (by rw [List.getElem?_set_self hi])
    rw [List.getElem?_set_self hi] at h3
    injection h3 with h3
    subst h3
    have key : ∀ (a b : List AV) (j : Nat), a.length = b.length → (∀ (k : Nat) (y : AV), b[k]? = some y → ∃ x, a[k]? = some x ∧ LeqV (.cell i (j + k)) x y) → leqC i j a b := fun a => by
      induction a with
      | nil => intro b j hl _; cases b with
        | nil => trivial
        | cons _ _ => simp at hl
      | cons x r ih =>
        intro b j hl hh
        cases b with
        | nil => simp at hl
        | cons y q =>
          refine ⟨?_, ih q (j + 1) (by simpa using hl) fun k z hz => ?_⟩
          · obtain ⟨x', h1, h2⟩ := hh 0 y rfl
            simp at h1; subst h1; exact h2
          · obtain ⟨x', h1, h2⟩ := hh (k + 1) z (by simpa using hz)
            exact ⟨x', by simpa using h1, by rw [show j + 1 + k = j + (k + 1) by omega]; exact h2⟩
    exact key a b 0 h4 fun k y hy => by obtain ⟨x, h6, h7⟩ := h5 k y hy; exact ⟨x, h6, by simpa using h7⟩
  · rintro (rfl | hh)
    · exact leqH_refl _ _
    · exact leqH_set hh

section
variable {α : Type} (h l : List α) (n : Nat) (x : α)
@[simp] theorem app_at : (h ++ l)[h.length + n]? = l[n]? := by rw [List.getElem?_append_right (by omega), Nat.add_sub_cancel_left]
end
@[simp] theorem take_set_len {α : Type} (h : List α) (i : Nat) (x : α) : List.take h.length (h.set i x) = h.set i x := List.take_of_length_le (by simp)
theorem set_same {α : Type} {h : List α} {i : Nat} {x : α} (hi : h[i]? = some x) : h.set i x = h := by
  obtain ⟨h1, h2⟩ := List.getElem?_eq_some_iff.1 hi
  rw [← h2]; exact List.set_getElem_self h1
@[simp] theorem take_app_n {α : Type} (h l : List α) (n : Nat) : List.take (h.length + n) (h ++ l) = h ++ l.take n := by rw [List.take_append, List.take_of_length_le (by omega), Nat.add_sub_cancel_left]
mutual
theorem lt_mono {n m : Nat} (hnm : n ≤ m) : ∀ {a : AV}, a.lt n → a.lt m
  | .v _, _ => by simp
  | .any, _ => by simp
  | .box i o, h => by simp at h ⊢; omega
  | .bsl i o k n, h => by simp at h ⊢; omega
  | .yld i r c a, h => by simp at h ⊢; exact ⟨by omega, ltL_mono hnm h.2⟩
  | .mp i _ _, h => by simp at h ⊢; omega
  | .ifc t a, h => by simp at h ⊢; exact lt_mono hnm h
  | .itr i none _ _, h => by simp at h ⊢; omega
  | .itr i (some j) _ _, h => by simp at h ⊢; omega
  | .ro cs, h => by simp at h ⊢; exact ltL_mono hnm h
  | .sl k es nul room, h => by simp at h ⊢; exact ltLL_mono hnm h
  | .fn f a b, h => by simp at h ⊢; exact ⟨ltL_mono hnm h.1, ltL_mono hnm h.2⟩
  | .agg cs, h => by simp at h ⊢; exact ltL_mono hnm h
  | .tup cs, h => by simp at h ⊢; exact ltL_mono hnm h
theorem ltL_mono {n m : Nat} (hnm : n ≤ m) : ∀ {l : List AV}, ltL n l → ltL m l
  | [], _ => by simp
  | a :: r, h => by simp at h ⊢; exact ⟨lt_mono hnm h.1, ltL_mono hnm h.2⟩
theorem ltLL_mono {n m : Nat} (hnm : n ≤ m) : ∀ {l : List (List AV)}, ltLL n l → ltLL m l
  | [], _ => by simp
  | a :: r, h => by simp at h ⊢; exact ⟨ltL_mono hnm h.1, ltLL_mono hnm h.2⟩
end
@[simp] theorem ltLL_more {h : List (List AV)} (hh : ltLL h.length h) (k : Nat) : ltLL (h.length + k) h := ltLL_mono (Nat.le_add_right _ _) hh
section
variable {α : Type} (h l : List α) (n i : Nat) (x y : α)
end
attribute [simp] bytesE_take bytesE_drop enc_take enc_drop
@[simp] theorem lay_full {α : Type} {l : List α} : ∀ {cs : List α}, cs.length = l.length → lay cs 0 l = l := fun {cs} hl => by
  apply List.ext_getElem?
  intro j
  rw [lay_get l cs 0 j (by omega)]
  by_cases hj : j < l.length
  · rw [if_pos ⟨by omega, by omega⟩, Nat.sub_zero]
  · rw [if_neg (by omega), List.getElem?_eq_none (by omega), List.getElem?_eq_none (by omega)]

/-! ### Contracts out of calls -/
section
variable {P : Program} {f : FuncId} {args : List AV} {h : List (List AV)}
theorem enters_of {fn : Func} (h1 : P.funcs[f]? = some fn) (h2 : ((fn.name == "runtime.NumGoroutine") || fn.body.isNone) = false) : Enters P f := by
  rw [Bool.or_eq_false_iff] at h2
  exact ⟨fn, h1, h2.1, h2.2⟩
def entersB (P : Program) (f : FuncId) : Bool :=
  match P.funcs[f]? with
  | some fn => !((fn.name == "runtime.NumGoroutine") || fn.body.isNone)
  | none => false
theorem enters_ofB (h : entersB P f = true) : Enters P f := by
  unfold entersB at h
  split at h
  · rename_i fn hfn; exact enters_of hfn (by simpa using h)
  · cases h
/-- It leaves memory as it was. -/
theorem contract_quiet (hE : entersB P f = true) {r : AV} (hr : r.idOf = none) (hc : ∀ (G : Ghost) (w : World) (vs : List Value), WorldOk G w → SeesL G args vs → ∃ v, Sees G r v ∧ Calls P f vs.toArray w fun e w' => e = .returned v ∧ w = w') : Contract P f args h r h [] := by
  refine ⟨enters_ofB hE, fun G w vs cls hW hS hvs hown hoh => ?_⟩
  obtain ⟨v, hv, hcl⟩ := hc G w vs hW hvs
  refine hcl.mono fun e w' he => ?_
  obtain ⟨rfl, rfl⟩ := he
  refine ⟨v, G, cls, rfl, Ext.refl G, hW, hS, fun i cs us h1 h2 j c hj => ?_, hv, .none _ hr, fun c hc => (by rw [hr] at hc; cases hc), fun _ _ _ => rfl, fun _ _ hb _ => hb⟩
  obtain ⟨h3, h4⟩ := hoh i cs us h1 h2 j c hj
  exact ⟨h3.imp2 fun b y B hB _ _ hcl => ⟨hcl, .inr (.inr ⟨i, cs, us, j, c, h1, h2, hj, hB⟩)⟩, h4⟩
/-- It makes bytes. -/
theorem contract_made (hE : entersB P f = true) {E : TypeId} {xs : List UInt8} (hc : ∀ (G : Ghost) (w : World) (vs : List Value), WorldOk G w → SeesL G args vs → Calls P f vs.toArray w fun e w' => ∃ v, e = .returned v ∧ OwnB E w' w.heap.size v xs ∧ Below w.heap.size w w') : Contract P f args h (.sl 1 (bytesE xs) none (.own .res)) h [] := by
  refine ⟨enters_ofB hE, fun G w vs cls hW hS hvs hown hoh => ?_⟩
  refine (hc G w vs hW hvs).mono fun e w' he => ?_
  obtain ⟨v, rfl, ⟨_, ho⟩, hb⟩ := he
  have hbelow : Below G.w0.heap.size G.w0 w' := hW.below.trans (hb.mono hW.size)
  have hcell : ∀ (b j : Nat), b < w.heap.size → w'.cell? ⟨b, j, none⟩ = w.cell? ⟨b, j, none⟩ ∧ w'.frozen? ⟨b, j, none⟩ = w.frozen? ⟨b, j, none⟩ := fun b j hlt =>
    ⟨World.cell?_of_block (w := w) (a := ⟨b, j, none⟩) (hb.block b hlt), World.frozen?_of_block (w := w) (a := ⟨b, j, none⟩) (hb.block b hlt)⟩
  have own_ : ∀ (G' : Ghost), G'.boxv = G.boxv → (∀ b B, G.bufs b = some B → G'.bufs b = some B) → ∀ cls' : Nat → Id, (∀ b, b < w.heap.size → cls' b = cls b) → OwnH G' (fun b c => cls' b = c ∧ (G.bufs b = none ∨ Touched G args vs h b)) h := fun G' e1 e2 cls' e3 i cs us h1 h2 j c hj => by
    rw [e1] at h2
    obtain ⟨h3, h4⟩ := hoh i cs us h1 h2 j c hj
    refine ⟨h3.move fun b y B hB _ hbB hcl => ⟨e2 b B hbB, ?_, .inr (.inr ⟨i, cs, us, j, c, h1, h2, hj, hB⟩)⟩, h4⟩
    rw [e3 b (hW.buf b B hbB).2.1]; exact hcl
  rcases ho with ⟨rfl, hn⟩ | ⟨g, cap, cur, rfl, hg, hrow, hcap, hmax, hcs, htake⟩
  · -- nothing
    have hxs : xs = [] := List.eq_nil_of_length_eq_zero hn
    subst hxs
    have hW' : WorldOk G w' := by
      refine ⟨hbelow, fun b B hB => ?_, fun i b us h1 h2 => ?_, hW.nodup2, hW.len, hW.objK (keepsO_below hb)⟩
      · obtain ⟨h1, h2, h3, h4, h5⟩ := hW.buf b B hB
        exact ⟨h1, by have := hb.size; omega, h3, fun j hj => by rw [(hcell b j h2).1, (hcell b j h2).2]; exact h4 j hj, fun j x hx => by rw [(hcell b j h2).1]; exact h5 j x hx⟩
      · obtain ⟨h3, h4, h5, h6⟩ := hW.box i b us h1 h2
        exact ⟨h3, by have := hb.size; omega, h5, fun j x hx => by rw [(hcell b _ h4).1, (hcell b _ h4).2]; exact h6 j x hx⟩
    refine ⟨_, G, cls, rfl, Ext.refl G, hW', hS, own_ G rfl (fun _ _ h => h) cls (fun _ _ => rfl), ?_, .inl ⟨rfl, fun _ => rfl⟩, fun c hc => (by simp [AV.idOf] at hc; exact hc.symm), fun _ _ _ => rfl, fun _ _ hb _ => hb⟩
    exact .sl 1 [] none _ none 0 0 (fun _ _ => undef) rfl ⟨fun _ => ⟨rfl, rfl⟩, fun h => (by cases h), fun h => (by cases h)⟩ (fun e h => by simp at h) (Nat.le_refl _) (by simp [maxLen]) (fun h => by cases h) (fun h => by simp at h) (fun i e h => by simp at h) (fun i j h => by simp at h)
  · have hgw : g < w'.heap.size := by
      rcases Nat.lt_or_ge g w'.heap.size with h1 | h1
      · exact h1
      · rw [Array.getElem?_eq_none h1] at hrow; cases hrow
    let G' : Ghost := G.setBuf g ⟨vals xs, cap⟩
    have hnew : ∀ j, w'.cell? ⟨g, j, none⟩ = cur[j]? ∧ (j < cur.size → w'.frozen? ⟨g, j, none⟩ = false) := fun j => by
      refine ⟨cell_of_row _ _ j cur E (0, 0) hrow, fun hj => ?_⟩
      simp [World.frozen?, hrow]
    have hbufs : ∀ b B, G.bufs b = some B → G'.bufs b = some B := fun b B hB => by
      have := (hW.buf b B hB).2.1
      show (if b = g then _ else G.bufs b) = _
      rw [if_neg (by omega), hB]
    have hE' : Ext G G' := ⟨rfl, fun b B hB => ⟨[], by rw [hbufs b B hB, List.append_nil]⟩, ⟨[], by rw [List.append_nil]; rfl⟩, fun _ _ h => h, fun _ _ _ => ⟨rfl, rfl⟩⟩
    have hcur : cur.size = cap := by rw [hcs, Nat.mul_one]
    have hvals : ∀ j x, (vals xs)[j]? = some x → w'.cell? ⟨g, j, none⟩ = some x := fun j x hx => by
      rw [(hnew j).1]
      rw [← htake, List.getElem?_take] at hx
      split at hx
      · rw [← Array.getElem?_toList]; exact hx
      · cases hx
    have hW' : WorldOk G' w' := by
      refine ⟨hbelow, fun b B hB => ?_, fun i b us h1 h2 => ?_, hW.nodup2, hW.len, hW.objK (keepsO_below hb)⟩
      · have hB' : (if b = g then some (⟨vals xs, cap⟩ : Buf) else G.bufs b) = some B := hB
        split at hB'
        · rename_i e
          subst e
          injection hB' with hB'
          subst hB'
          refine ⟨by have := hW.size; show G.w0.heap.size ≤ _; omega, hgw, by rw [vals_length]; exact hcap, fun j hj => ?_, hvals⟩
          rw [(hnew j).1, (hnew j).2 (by rw [hcur]; exact hj), Array.getElem?_eq_getElem (by rw [hcur]; exact hj)]
          exact ⟨rfl, rfl⟩
        · obtain ⟨h1, h2, h3, h4, h5⟩ := hW.buf b B hB'
          exact ⟨h1, by have := hb.size; omega, h3, fun j hj => by rw [(hcell b j h2).1, (hcell b j h2).2]; exact h4 j hj, fun j x hx => by rw [(hcell b j h2).1]; exact h5 j x hx⟩
      · obtain ⟨h3, h4, h5, h6⟩ := hW.box i b us h1 h2
        refine ⟨h3, by have := hb.size; omega, fun hne => ?_, fun j x hx => by rw [(hcell b _ h4).1, (hcell b _ h4).2]; exact h6 j x hx⟩
        show (if b = g then _ else G.bufs b) = none
        rw [if_neg (by omega)]; exact h5 hne
    refine ⟨_, G', fun b => if b = g then .res else cls b, rfl, hE', hW', ⟨hS.1, fun i cs us h1 h2 => ?_⟩, own_ G' rfl hbufs _ (fun b hlt => by show (if b = g then _ else _) = _; rw [if_neg (by omega)]), ?_, .inr ⟨g, 0, ⟨vals xs, cap⟩, rfl, ?_, ?_, ?_, ?_, ?_⟩, fun c hc => (by simp [AV.idOf] at hc; exact hc.symm), fun _ _ _ => rfl, fun b B hB _ => hbufs b B hB⟩
    · obtain ⟨h3, h4, h5⟩ := hS.2 i cs us h1 h2
      exact ⟨h3, h4, fun j c hj => (h5 j c hj).ext hE'⟩
    · refine .sl 1 (bytesE xs) none _ (some ⟨g, 0, none⟩) xs.length cap (fun i _ => .int .u8 (byteAt xs i)) (by simp [bytesE]) ⟨fun h => (by cases h), fun h => (by cases h), fun h => (by cases h)⟩ (fun e he => ?_) hcap hmax (fun h => by cases h) (fun _ => ⟨g, 0, rfl, fun i j hi hj => ?_⟩) (fun i e he j c hj => ?_) (fun _ _ _ _ => rfl)
      · unfold bytesE at he; obtain ⟨q, _, rfl⟩ := List.mem_map.1 he; rfl
      · have hi' : i < xs.length := by simpa [bytesE] using hi
        have hj0 : j = 0 := by omega
        subst hj0
        unfold Ghost.cell
        rw [if_neg (by have := hW.size; show ¬ g < G.w0.heap.size; omega)]
        show (if g = g then _ else _ : Option Buf).bind _ = _
        rw [if_pos rfl]
        show (vals xs)[0 + i * 1 + 0]? = _
        rw [show 0 + i * 1 + 0 = i by omega]
        exact vals_at xs i hi'
      · have hi' : i < xs.length := by
          have := (List.getElem?_eq_some_iff.1 he).1; simpa [bytesE] using this
        have e1 : e = [.v (.int .u8 (byteAt xs i))] := by
          unfold bytesE at he
          rw [List.getElem?_map, List.getElem?_eq_getElem hi'] at he
          injection he with he
          rw [← he]
          simp [byteAt, List.getD_eq_getElem?_getD, hi']
        subst e1
        cases j with
        | zero => simp at hj; subst hj; exact .v _
        | succ j => simp at hj
    · show (if g = g then _ else _) = _
      rw [if_pos rfl]
    · rw [vals_length]; simp
    · simp
    · simp
    · left
      cases hB : G.bufs g with
      | none => rfl
      | some B => have := (hW.buf g B hB).2.1; omega
end

/-! ### What an argument is -/
theorem SeesL.split {G : Ghost} {a : AV} {l : List AV} {vs : List Value} (h : SeesL G (a :: l) vs) : ∃ x r, vs = x :: r ∧ Sees G a x ∧ SeesL G l r := by
  cases vs with
  | nil => have := h.1; simp at this
  | cons x r => exact ⟨x, r, rfl, h.tail⟩
theorem SeesL.none {G : Ghost} {vs : List Value} (h : SeesL G [] vs) : vs = [] := List.eq_nil_of_length_eq_zero h.1
theorem Sees.bytes {G : Ghost} {k : Nat} {bs : List UInt8} {nul : Option Bool} {room : Room} {x : Value} (h : Sees G (.sl k (bytesE bs) nul room) x) {w : World} (hW : WorldOk G w) : ∃ a cap, x = .slice a bs.length cap ∧ (a = none → cap = 0) ∧ bs.length ≤ cap ∧ cap ≤ maxLen ∧ BytesAt w w.heap.size a bs := by
  have h0 := h
  cases h with
  | sl _ _ _ _ a len cap u hlen hn hk hcap hm =>
    obtain ⟨e, hb⟩ := sees_bytes (unbytes_bytesE bs) h0 hW
    subst e
    exact ⟨a, cap, rfl, fun ha => (hn.1 ha).1, hcap, hm, hb⟩

theorem fitL_self : ∀ {n : Nat} {l : List AV}, (∀ c ∈ l, c.idOf = none) → fitL n l l
  | _, [], _ => trivial
  | n, c :: _, h => ⟨fitA_self n (h c (List.mem_cons_self ..)), fitL_self fun x hx => h x (List.mem_cons_of_mem _ hx)⟩
theorem handL_self : ∀ {l : List AV}, (∀ c ∈ l, c.idOf = none) → handL l l = l
  | [], _ => rfl
  | c :: r, h => by
    show hand c c :: handL r r = c :: r
    rw [hand_none (h c (List.mem_cons_self ..)), handL_self fun x hx => h x (List.mem_cons_of_mem _ hx)]
theorem idsOf_none : ∀ {l : List AV}, (∀ c ∈ l, c.idOf = none) → idsOf l = []
  | [], _ => rfl
  | c :: _, h => by
    rw [idsOf_cons, h c (List.mem_cons_self ..)]
    exact idsOf_none fun x hx => h x (List.mem_cons_of_mem _ hx)
/-- A call whose arguments own no room, just as the contract has them. -/
theorem xcall_self {P : Program} {f : FuncId} {args : List AV} {s : St} {d : Option Nat} {K : St → List Nat → Prop} {r : AV} {h' : List (List AV)} {wr : List Nat} (hn : ∀ c ∈ args, c.idOf = none) (hc : Contract P f args s.heap r h' wr) (hk : K (s.called args d r h' wr) []) : xcall P f args s d K :=
  xcall_of hc (fitL_self hn) (by rw [handL_self hn, idsOf_none hn]; exact List.nodup_nil) (by rw [handL_self hn]; exact hk)
theorem wrap64 {n : Int} (h1 : -9223372036854775808 ≤ n) (h2 : n ≤ 9223372036854775807) : IntKind.i64.wrap n = n := by
  simp only [IntKind.wrap]
  simp [IntKind.bits, IntKind.signed]
  omega
/-! ### Loops -/
theorem xloop_ok {P : Program} {m : Frm} {a : XCode} {s : St} {K : XExit → St → Prop} {D : Type} (inv : D → St) (ok : D → Prop) (μ : D → Nat) (d0 : D) (hd : ok d0) (h0 : Leq m.h.length s (inv d0)) (hr : ∀ d, ok d → xwp P m a (inv d) (XExit.then (fun s' => ∃ d', ok d' ∧ μ d' < μ d ∧ Leq m.h.length s' (inv d')) K)) : xwp P m (.loop a) s K := by
  refine xloop_of (D := { d : D // ok d }) (fun d => inv d.1) (fun d => μ d.1) ⟨d0, hd⟩ h0 fun d => ?_
  have e : (fun s' => ∃ d' : { d : D // ok d }, μ d'.1 < μ d.1 ∧ Leq m.h.length s' (inv d'.1)) = fun s' => ∃ d', ok d' ∧ μ d' < μ d.1 ∧ Leq m.h.length s' (inv d') := by
    funext s'
    exact propext ⟨fun ⟨d', h1, h2⟩ => ⟨d'.1, d'.2, h1, h2⟩, fun ⟨d', h1, h2, h3⟩ => ⟨⟨d', h1⟩, h2, h3⟩⟩
  rw [e]
  exact hr d.1 d.2
end Go.Proofs.YtofkddajlgebjaaGreat.Ax
/- Arguments that came in as data, over values without memory: what reads as data of a type is what a Lean value is laid out as; a law's walk out of its contract. No program is named here. -/
namespace Go.Proofs.YtofkddajlgebjaaGreat.Ax
open Go.RowKit Go.Deep Go.ChangeShapes Go.WideShapes Go.ChangeAt Go.Joins Go By

def G0 (w : World) : Ghost := ⟨w, fun _ => none, [], [], fun _ => none, fun _ => (none, 0), fun _ => 0⟩
theorem G0_ok (w : World) (hd : Dom w) : WorldOk (G0 w) w := ⟨Below.refl _ _, fun b B h => (by cases h), fun i b vs h => (by simp [G0] at h), ⟨fun i j b h => (by simp [G0] at h), hd⟩, rfl, fun b o h => (by cases h), fun i b vs κ h => (by simp [G0] at h), fun b h => absurd rfl h, fun b j h => absurd h (Nat.not_lt_zero j)⟩
theorem G0_cell {w : World} {b o : Nat} {x : Value} (h : w.cell? ⟨b, o, none⟩ = some x) : (G0 w).cell b o = some x := by
  have hb : b < w.heap.size := lt_of_cell h
  unfold Ghost.cell G0
  rw [if_pos hb, h]
/-- Cells in a row are these. -/
def SeesCs (G : Ghost) (es : List AV) (cs : List Value) : Prop := cs.length = es.length ∧ (∀ x ∈ cs, x.oneCell' = true) ∧ ∀ j c, es[j]? = some c → Sees G c (cs.getD j undef)
theorem SeesCs.one {G : Ghost} {a : AV} {x : Value} (h1 : x.oneCell' = true) (h : Sees G a x) : SeesCs G [a] [x] :=
  ⟨rfl, fun y hy => by simp at hy; subst hy; exact h1, fun j c hj => by cases j with | zero => simp at hj; subst hj; exact h | succ j => simp at hj⟩
theorem SeesCs.nil {G : Ghost} : SeesCs G [] [] := ⟨rfl, fun y hy => by simp at hy, fun j c hj => by simp at hj⟩
theorem SeesCs.append {G : Ghost} {es fs : List AV} {cs ds : List Value} (h : SeesCs G es cs) (k : SeesCs G fs ds) : SeesCs G (es ++ fs) (cs ++ ds) := by
  refine ⟨by simp [h.1, k.1], fun x hx => ?_, fun j c hj => ?_⟩
  · rcases List.mem_append.1 hx with hx | hx
    · exact h.2.1 x hx
    · exact k.2.1 x hx
  · rcases Nat.lt_or_ge j es.length with hl | hl
    · rw [List.getElem?_append_left hl] at hj
      have := h.2.2 j c hj
      rwa [List.getD_eq_getElem?_getD, List.getElem?_append_left (by rw [h.1]; exact hl), ← List.getD_eq_getElem?_getD]
    · rw [List.getElem?_append_right hl] at hj
      have := k.2.2 _ c hj
      rwa [List.getD_eq_getElem?_getD, List.getElem?_append_right (by rw [h.1]; exact hl), h.1, ← List.getD_eq_getElem?_getD]
theorem SeesCs.single {G : Ghost} {a : AV} {x : Value} (h : SeesCs G [a] [x]) : Sees G a x := h.2.2 0 a rfl

/-- What reads as data of type t is laid out as f tells of some a that is right. -/
def Shape (P : Program) (t : TypeId) {α : Type} (f : α → List AV) (ok : α → Prop) : Prop :=
  ∀ {H : Type} (enc : TypeId × Value → H) (w : World) (base : Nat) (held : Bool) (n : Nat) (cs : List Value) (x : DataW H × List MemPlace), DataW.trod enc P w base (fun _ => true) held n t cs = some x → ∃ a, ok a ∧ SeesCs (G0 w) (f a) cs
section
variable {P : Program} {t : TypeId}
theorem Shape.map {α β : Type} {f : α → List AV} {ok : α → Prop} (h : Shape P t f ok) {f' : β → List AV} {ok' : β → Prop} (g : α → β) (hf : ∀ a, f' (g a) = f a) (hok : ∀ a, ok a → ok' (g a)) : Shape P t f' ok' := fun enc w base held n cs x hx => by
  obtain ⟨a, h1, h2⟩ := h enc w base held n cs x hx
  exact ⟨g a, hok a h1, by rw [hf]; exact h2⟩
theorem shape_int {k : IntKind} (ht : P.underlying t = some (.int k)) : Shape P t (fun n : Int => [.v (.int k n)]) (fun n => (Lit.int k n).wf = true) := fun enc w base held n cs x hx => by
  obtain ⟨n, rfl, _, hw⟩ := DataW.trod_int ht hx
  exact ⟨n, hw, .one rfl (.v _)⟩
theorem strB_self (s : ByteArray) : strB s.data.toList = s := by apply ByteArray.ext; simp [strB]
theorem shape_str (ht : P.underlying t = some .string) : Shape P t strC (fun s => s.length ≤ maxLen) := fun enc w base held n cs x hx => by
  obtain ⟨s, rfl, _, hw⟩ := DataW.trod_string ht hx
  exact ⟨s.data.toList, by simpa using hw, by unfold strC; rw [strB_self]; exact .one rfl (.v _)⟩
theorem enc_at {α : Type} (f : α → List AV) (l : List α) (i : Nat) {e : List AV} (h : (enc f l)[i]? = some e) : ∃ a, l[i]? = some a ∧ f a = e := by
  unfold enc at h
  rw [List.getElem?_map] at h
  cases hl : l[i]? with
  | none => rw [hl] at h; cases h
  | some a => rw [hl] at h; injection h with h; exact ⟨a, rfl, h⟩
theorem shape_slice {e : TypeId} {k : Nat} {α : Type} {f : α → List AV} {ok : α → Prop} (ht : P.underlying t = some (.slice e)) (hk : P.cellsOf e = k) (hp : 0 < k) (he : Shape P e f ok) (hf : ∀ a, (f a).length = k) :
    Shape P t (fun l : List α => [.sl k (enc f l) none .no]) (fun l => l.length ≤ maxLen ∧ ∀ x ∈ l, ok x) := fun en w base held n cs x hx => by
  rcases open_slice ht hx with ⟨rfl, _⟩ | ⟨a, len, cap, m, n, D, Pl, rfl, _, hl, hcm, hm, _, hi⟩
  · exact ⟨[], ⟨by simp [maxLen], fun x h => by cases h⟩, .one rfl (.sl k [] none .no none 0 0 (fun _ _ => undef) rfl ⟨fun _ => ⟨rfl, rfl⟩, fun h => (by cases h), fun h => (by cases h)⟩ (fun e h => by cases h) (Nat.le_refl _) (by simp [maxLen]) (fun h => by cases h) (fun h => by simp at h) (fun i e h => by simp at h) (fun i j h => by simp at h))⟩
  · simp at hm
    by_cases h0 : len = 0
    · subst h0
      exact ⟨[], ⟨by simp [maxLen], fun x h => by cases h⟩, .one rfl (.sl k [] none .no (some a) 0 cap (fun _ _ => undef) rfl ⟨fun h => (by cases h), fun h => (by cases h), fun h => (by cases h)⟩ (fun e h => by cases h) hl hcm (fun h => by cases h) (fun h => by simp at h) (fun i e h => by simp at h) (fun i j h => by simp at h))⟩
    have at_ : ∀ i, i < len → ∃ p : α × List Value, ok p.1 ∧ SeesCs (G0 w) (f p.1) p.2 ∧ p.2.length = k ∧ ∀ j u, p.2[j]? = some u → w.cell? ((a.add (i * k)).add j) = some u := fun i hlt => by
      obtain ⟨cs', hc, ht'⟩ := hi i (by omega)
      rw [hk] at hc
      obtain ⟨_, hlen, hat⟩ := World.cells?_some hc
      obtain ⟨b, h1, h2⟩ := he en w base held n cs' _ ht'
      refine ⟨(b, cs'), h1, h2, hlen, fun j u hu => ?_⟩
      have hj : j < k := by rw [← hlen]; exact (List.getElem?_eq_some_iff.1 hu).1
      rw [hat j hj, hu]
    have hel : ∀ i, ∃ p : α × List Value, i < len → ok p.1 ∧ SeesCs (G0 w) (f p.1) p.2 ∧ p.2.length = k ∧ ∀ j u, p.2[j]? = some u → w.cell? ((a.add (i * k)).add j) = some u := fun i => by
      by_cases hlt : i < len
      · obtain ⟨p, hp⟩ := at_ i hlt; exact ⟨p, fun _ => hp⟩
      · obtain ⟨p, _⟩ := at_ 0 (by omega); exact ⟨p, fun hh => absurd hh hlt⟩
    obtain ⟨g, hg⟩ := Classical.axiomOfChoice hel
    have hget : ∀ i, i < len → ((List.range len).map fun i => (g i).1)[i]? = some (g i).1 := fun i hi' => by
      rw [List.getElem?_map, List.getElem?_range hi']; rfl
    refine ⟨(List.range len).map fun i => (g i).1, ⟨by simp; omega, fun x hx => ?_⟩, .one rfl ?_⟩
    · obtain ⟨i, hi', rfl⟩ := List.mem_map.1 hx
      exact (hg i (List.mem_range.1 hi')).1
    · refine .sl k _ none .no (some a) len cap (fun i j => (g i).2.getD j undef) (by simp [enc]) ⟨fun h => (by cases h), fun h => (by cases h), fun h => (by cases h)⟩ (fun e he' => ?_) hl hcm (fun h => by cases h) (fun hpos => ?_) (fun i e he' j c hj => ?_) (fun i j hi' hj => ?_)
      · obtain ⟨x, _, rfl⟩ := List.mem_map.1 he'; exact hf x
      · obtain ⟨b, off, spot⟩ := a
        obtain ⟨_, _, hl0, hc0⟩ := hg 0 (by omega)
        have h1 := hc0 0 _ (List.getElem?_eq_getElem (by omega))
        have hs : spot = none := by simpa [Addr.add] using World.cell?_spot h1
        subst hs
        refine ⟨b, off, rfl, fun i j hi' hj => ?_⟩
        have hi2 : i < len := by simpa [enc] using hi'
        obtain ⟨_, _, hl1, hc1⟩ := hg i hi2
        have h2 := hc1 j _ (List.getElem?_eq_getElem (by omega))
        rw [By.add_plain, By.add_plain] at h2
        rw [List.getD_eq_getElem?_getD, List.getElem?_eq_getElem (by omega)]
        exact G0_cell h2
      · obtain ⟨x, hx1, rfl⟩ := enc_at f _ i he'
        have hi2 : i < len := by have := (List.getElem?_eq_some_iff.1 hx1).1; simpa using this
        rw [hget i hi2] at hx1
        injection hx1 with hx1
        subst hx1
        exact (hg i hi2).2.1.2.2 j c hj
      · have hi2 : i < len := by simpa [enc] using hi'
        obtain ⟨_, hs, hl1, _⟩ := hg i hi2
        rw [List.getD_eq_getElem?_getD, List.getElem?_eq_getElem (by omega)]
        exact hs.2.1 _ (List.getElem_mem _)
/-- Fields in a row, the first of them at o, of m cells. -/
def ShapeF (P : Program) (fs : List Field) (o m : Nat) {α : Type} (f : α → List AV) (ok : α → Prop) : Prop :=
  ∀ {H : Type} (enc : TypeId × Value → H) (w : World) (base : Nat) (held : Bool) (n : Nat) (cs : List Value), cs.length = m →
    (∀ fd ∈ fs, ∃ x : DataW H × List MemPlace, DataW.trod enc P w base (fun _ => true) held n fd.type ((cs.drop (fd.offset - o)).take (P.cellsOf fd.type)) = some x) → ∃ a, ok a ∧ SeesCs (G0 w) (f a) cs
theorem shape_one {fd : Field} {o k : Nat} {α : Type} {f : α → List AV} {ok : α → Prop} (ho : fd.offset = o) (hk : P.cellsOf fd.type = k) (h : Shape P fd.type f ok) : ShapeF P [fd] o k f ok := fun enc w base held n cs hl hf => by
  obtain ⟨x, hx⟩ := hf fd (List.mem_cons_self ..)
  rw [ho, Nat.sub_self, List.drop_zero, hk, List.take_of_length_le (by omega)] at hx
  exact h enc w base held n cs x hx
theorem shape_cons {fd : Field} {fs : List Field} {o k m : Nat} {α β : Type} {f : α → List AV} {ok : α → Prop} {g : β → List AV} {ok' : β → Prop} (ho : fd.offset = o) (hk : P.cellsOf fd.type = k) (h : Shape P fd.type f ok)
    (ha : fs.all (fun x => decide (o + k ≤ x.offset)) = true) (hr : ShapeF P fs (o + k) m g ok') : ShapeF P (fd :: fs) o (k + m) (fun p : α × β => f p.1 ++ g p.2) (fun p => ok p.1 ∧ ok' p.2) := fun enc w base held n cs hl hf => by
  obtain ⟨x, hx⟩ := hf fd (List.mem_cons_self ..)
  rw [ho, Nat.sub_self, List.drop_zero, hk] at hx
  obtain ⟨a, h1, h2⟩ := h enc w base held n _ x hx
  obtain ⟨b, h3, h4⟩ := hr enc w base held n (cs.drop k) (by simp; omega) (fun y hy => by
    obtain ⟨z, hz⟩ := hf y (List.mem_cons_of_mem _ hy)
    have := List.all_eq_true.1 ha y hy
    simp at this
    rw [List.drop_drop]
    exact ⟨z, by rw [show k + (y.offset - (o + k)) = y.offset - o by omega]; exact hz⟩)
  exact ⟨(a, b), ⟨h1, h3⟩, by have := h2.append h4; rwa [List.take_append_drop] at this⟩
theorem shape_struct {fs : Array Field} {m : Nat} {α : Type} {f : α → List AV} {ok : α → Prop} (ht : P.underlying t = some (.struct fs)) (hm : P.cellsOf t = m) (h : ShapeF P fs.toList 0 m f ok) : Shape P t f ok := fun enc w base held n cs x hx => by
  obtain ⟨ys, n', _, _, hlen, hyl, hf⟩ := DataW.trod_struct ht hx
  refine h enc w base held n' cs (by omega) fun fd hfd => ?_
  obtain ⟨j, hj⟩ := List.getElem?_of_mem hfd
  have hj' : fs[j]? = some fd := by simpa using hj
  have hlt : j < fs.size := (Array.getElem?_eq_some_iff.1 hj').1
  have := hf j fd hj'
  rw [Nat.sub_zero, this]
  cases hy : ys[j]? with
  | none => rw [List.getElem?_eq_none_iff] at hy; omega
  | some y => exact ⟨y, rfl⟩

/-! ### As arguments -/
variable {H : Type} {enc : TypeId × Value → H} {w : World} {base : Nat} {held : Bool} {r : Reach} {b0 : Nat} {v : Value} {d : DataW H} {p : List MemPlace} {α : Type} {ok : α → Prop}
theorem arg_one {c : α → AV} (h : Shape P t (fun a => [c a]) ok) (hv : v.cells.toList = [v]) (hd : DataW.Trod enc P w base (fun _ => true) held t v d p) : ∃ a, ok a ∧ Sees (G0 w) (c a) v := by
  obtain ⟨fuel, hf⟩ := hd
  obtain ⟨a, h1, h2⟩ := h enc w base held fuel _ _ hf
  rw [hv] at h2
  exact ⟨a, h1, h2.single⟩
theorem arg_int {k : IntKind} (ht : P.underlying t = some (.int k)) (hv : Value.okWide P w r b0 t v) (hd : DataW.Trod enc P w base (fun _ => true) held t v d p) : ∃ n : Int, (Lit.int k n).wf = true ∧ Sees (G0 w) (.v (.int k n)) v := by
  obtain ⟨n, rfl⟩ := okWide_int ht hv
  exact arg_one (shape_int ht) rfl hd
theorem arg_slice {e : TypeId} {c : α → AV} (ht : P.underlying t = some (.slice e)) (h : Shape P t (fun a => [c a]) ok) (hv : Value.okWide P w r b0 t v) (hd : DataW.Trod enc P w base (fun _ => true) held t v d p) : ∃ a, ok a ∧ Sees (G0 w) (c a) v := by
  obtain ⟨a, l, k, rfl⟩ := okWide_slice ht hv
  exact arg_one h rfl hd
/-- A law's walk. -/
theorem law_walk {f : FuncId} {args : List AV} {vs : List Value} {b : Bool} {h' : List (List AV)} {wr : List Nat} (hd : Dom w) (hc : Contract P f args [] (.v (.bool b)) h' wr) (hn : ∀ a ∈ args, a.idOf = none) (hs : SeesL (G0 w) args vs) :
    Calls P f vs.toArray w fun e w' => e = .returned (.bool b) ∧ Below w.heap.size w w' := by
  refine (hc.2 (G0 w) w vs (fun _ => .res) (G0_ok w hd) ⟨rfl, fun i cs us h => by simp at h⟩ hs (fun i x hx => ⟨.none _ (hn x (List.mem_of_getElem? hx)), fun c hc => ?_⟩) (fun i cs us h => by simp at h)).mono fun e w' he => ?_
  · rw [hn x (List.mem_of_getElem? hx)] at hc; cases hc
  · obtain ⟨v, G', cls', rfl, ha⟩ := he
    refine ⟨by rw [ha.sees.inv_v], ?_⟩
    have := ha.ok.below
    rwa [ha.ext.w0] at this
end
end Go.Proofs.YtofkddajlgebjaaGreat.Ax
namespace Go.Proofs.YtofkddajlgebjaaGreat.Ax
open Go.RowKit Go.Deep Go.ChangeShapes Go.WideShapes Go.ChangeAt Go.Joins Go By

/-- What is within reach. -/
def Reached {H : Type} (P : Program) (t : TypeId) (d : DataW H) : Prop := ∀ n ∈ d.weights P t, n ≤ reachBytes
def ShapeR (P : Program) (t : TypeId) {α : Type} (f : α → List AV) (ok : α → Prop) : Prop :=
  ∀ {H : Type} (enc : TypeId × Value → H) (w : World) (base : Nat) (held : Bool) (n : Nat) (cs : List Value) (x : DataW H × List MemPlace), DataW.trod enc P w base (fun _ => true) held n t cs = some x → Reached P t x.1 → ∃ a, ok a ∧ SeesCs (G0 w) (f a) cs
section
variable {P : Program} {t : TypeId}
theorem ShapeR.map {α β : Type} {f : α → List AV} {ok : α → Prop} (h : ShapeR P t f ok) {f' : β → List AV} {ok' : β → Prop} (g : α → β) (hf : ∀ a, f' (g a) = f a) (hok : ∀ a, ok a → ok' (g a)) : ShapeR P t f' ok' := fun enc w base held n cs x hx hr => by
  obtain ⟨a, h1, h2⟩ := h enc w base held n cs x hx hr
  exact ⟨g a, hok a h1, by rw [hf]; exact h2⟩
/-! ### As arguments -/
variable {H : Type} {enc : TypeId × Value → H} {w : World} {base : Nat} {held : Bool} {r : Reach} {b0 : Nat} {v : Value} {d : DataW H} {p : List MemPlace} {α : Type} {ok : α → Prop}
end
end Go.Proofs.YtofkddajlgebjaaGreat.Ax
