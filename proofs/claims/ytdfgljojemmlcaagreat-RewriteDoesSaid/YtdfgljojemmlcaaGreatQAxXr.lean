import Derived.Test.YtdfgljojemmlcaaGreatQAxQ
import Derived.SizedLaws
set_option linter.unusedSimpArgs false
set_option linter.unusedVariables false
open List renaming getD_eq_getElem?_getD -> Q0, getElem?_eq_getElem -> Q1, getElem?_eq_some_iff -> Q2, mem_cons_self -> Q3, take_of_length_le -> Q4, mem_cons_of_mem -> Q5, getElem?_append_right -> Q6, getElem?_map -> Q8, length_eq_one_iff -> Q9, getElem?_set_self -> Ra, eq_nil_of_length_eq_zero -> Rb, getElem?_append_left -> Rc, append_nil -> Re, getElem?_eq_none -> Rh, mem_of_getElem? -> Ri, mem_map -> Rk, take_append -> Rn, mapM_cons -> Rp, nodup_nil -> Rq, drop_zero -> Rr, take -> Rt, range -> Rv
open Nat renaming add_sub_cancel_left -> Q7, sub_zero -> Rd, le_refl -> Rf, lt_or_ge -> Rj, zero_le -> Rl, sub_self -> Ru
open UInt8 renaming ofNat -> Rm
open Array renaming replicate -> Ro
namespace Go.Proofs.YtdfgljojemmlcaaGreat.Ax
open Go.RowKit Go By
theorem ae {α : Sort _} {a : α} : a = a := of_eq_true (eq_self a)
def yi (P : Program) (N : Nat) : ResultVar -> Option XOp
 | .tmp t => if t < N then some (.move (.tmp t)) else none
 | .cell t ty => if t < N then dG P ty (.tmp t) else none
def sF (tmps : Array Value) : ResultVar -> Sem Value
 | .tmp t => pure (tmps.getD t undef)
 | .cell t ty => do loadVar ty (<- asAddr (tmps.getD t undef))
structure XFun where
 n : Nat
 code : XCode
 res : List XOp
def ak (P : Program) (f : FuncId) : Option XFun :=
 match P.funcs[f]? with
 | some fn => match fn.body with
  | some c => if (fn.name == "runtime.NumGoroutine") = false then
    match bq P fn.ntmps c, fn.results.toList.mapM (yi P fn.ntmps) with
    | some x, some rs => some ⟨fn.ntmps, x, rs⟩
    | _, _ => none
   else none
  | none => none
 | none => none
def qq (s : St) : List XOp -> Prop
 | [] => True
 | x :: r => (cE s x).ok /\ qq s r
def mI (rs : List XOp) (s : St) : AV :=
 match rs with
 | [x] => (cE s x).val
 | l => .tup (l.map fun x => (cE s x).val.unown)
def ky (m : Nat) : AV -> AV
 | .sl k es nul (.own c) => match c with
  | .cell i _ => if i < m then .sl k es nul .no else .sl k es nul (.own .res)
  | _ => .sl k es nul (.own .res)
 | a => a
def wQ (rs : List XOp) (n : Nat) (r : AV) (h' : List (List AV)) (wr : List Nat) (s : St) : Prop :=
 qq s rs /\ n <= h'.length /\ h'.length <= s.heap.length /\ LeqV .res (ky h'.length (mI rs s)) r /\ r.lt h'.length /\ jo 0 (s.heap.take h'.length) h' /\ aw h'.length h' /\ ∀ i ∈ s.wr, i < n -> i ∈ wr
def GS (rs : List XOp) (n : Nat) (r : AV) (h' : List (List AV)) (wr : List Nat) : XExit -> St -> Prop
 | .exit _, _ => False
 | _, s => wQ rs n r h' wr s
def dh (own : Bool) : Nat -> List AV -> List (Nat × AV)
 | _, [] => []
 | i, a :: r => bif a.idOf.isSome == own then (i, a) :: dh own (i + 1) r else dh own (i + 1) r
def enter (args : List AV) (h : List (List AV)) : St := ⟨dh false 0 args, dh true 0 args, h, []⟩
theorem jp (own : Bool) : ∀ (l : List AV) (i t : Nat) (a : AV), find (dh own i l) t = some a -> i <= t /\ l[t - i]? = some a /\ a.idOf.isSome = own
 | [], i, t, a, h => by simp [dh, find] at h
 | x :: l, i, t, a, h => by
  unfold dh at h
  have rec_ : find (dh own (i + 1) l) t = some a -> i <= t /\ (x :: l)[t - i]? = some a /\ a.idOf.isSome = own := fun h => by
   obtain ⟨h1, h2, h3⟩ := jp own l (i + 1) t a h
   refine ⟨by omega, ?_, h3⟩
   rw [show t - i = (t - (i + 1)) + 1 by omega]
   simpa using h2
  cases hx : (x.idOf.isSome == own) with
  | true =>
   rw [hx] at h
   simp only [cond_true, find] at h
   split at h
   ·rename_i e
    injection h with h; subst h e
    exact ⟨Rf _, by simp, by simpa using hx⟩
   ·exact rec_ h
  | false => rw [hx] at h; exact rec_ h
theorem gz (own : Bool) : ∀ (l : List AV) (i t : Nat) (a : AV), i <= t -> l[t - i]? = some a -> a.idOf.isSome = own -> find (dh own i l) t = some a
 | [], i, t, a, _, h, _ => by simp at h
 | x :: l, i, t, a, hi, h, ho => by
  unfold dh
  by_cases e : t = i
  ·subst e
   simp at h; subst h
   simp [ho, find]
  ·have h2 : l[t - (i + 1)]? = some a := by
    rw [show t - i = (t - (i + 1)) + 1 by omega] at h
    simpa using h
   have := gz own l (i + 1) t a (by omega) h2 ho
   cases hx : (x.idOf.isSome == own) with
   | true => simp only [cond_true, find]; rw [if_neg (by omega)]; exact this
   | false => exact this
theorem pA (args : List AV) (h : List (List AV)) (t : Nat) : (enter args h).look t = (match args[t]? with | some a => a | none => .any) := by
 unfold St.look enter
 dsimp only
 cases hT : find (dh true 0 args) t with
 | some a =>
  obtain ⟨_, h2, _⟩ := jp true args 0 t a hT
  rw [Rd] at h2
  rw [h2]
 | none =>
  dsimp only
  cases hF : find (dh false 0 args) t with
  | some a =>
   obtain ⟨_, h2, _⟩ := jp false args 0 t a hF
   rw [Rd] at h2
   rw [h2]
  | none =>
   dsimp only
   cases ha : args[t]? with
   | none => rfl
   | some a =>
    exfalso
    cases ho : a.idOf.isSome with
    | true => rw [gz true args 0 t a (Rl _) (by simpa using ha) ho] at hT; cases hT
    | false => rw [gz false args 0 t a (Rl _) (by simpa using ha) ho] at hF; cases hF
section
variable {P : Program} {C : Ctx} {N : Nat} {G : Ghost} {cls : Nat -> Id} {s : St} {a : Act} {w : World}
theorem Fs (h : Rel C N G cls s a w) {x : Operand} (hx : dg N x = true) {op : XOp} (ho : op = .load1 x \/ ∃ n, op = .loadN n x) (hok : (cE s op).ok) : ∃ p, a.eval x = .pointer (some p) := by
 have h1 := h.get hx
 have key : (∃ i o, s.get x = .box i o) \/ ∃ cs, s.get x = .ro cs := by
  rcases ho with rfl | ⟨n, rfl⟩
  ·replace hok : (fq s.heap (s.get x)).ok := hok
   unfold fq at hok
   split at hok
   ·rename_i e; exact .inl ⟨_, _, e⟩
   ·rename_i e; exact .inr ⟨_, e⟩
   ·exact hok.elim
  ·replace hok : (eK s.heap n (s.get x)).ok := hok
   unfold eK at hok
   split at hok
   ·rename_i e; exact .inl ⟨_, _, e⟩
   ·rename_i e; exact .inr ⟨_, e⟩
   ·exact hok.elim
 rcases key with ⟨i, o, e⟩ | ⟨cs, e⟩
 ·rw [e] at h1; obtain ⟨b, hb, _⟩ := h1.inv_box; exact ⟨_, hb⟩
 ·rw [e] at h1; obtain ⟨b, o, u, hb, _⟩ := h1.inv_ro; exact ⟨_, hb⟩
theorem vu {ty : TypeId} {x : Operand} {op : XOp} (h : dG P ty x = some op) : (op = .load1 x \/ ∃ n, op = .loadN n x) /\ op.isVal = true := by
 unfold dG at h
 split at h
 ·cases hs : ea P ty with
  | none => rw [hs] at h; cases h
  | some n => rw [hs] at h; injection h with h; subst h; exact ⟨.inr ⟨n, rfl⟩, rfl⟩
 ·cases hs : ea P ty with
  | none => rw [hs] at h; cases h
  | some n => rw [hs] at h; injection h with h; subst h; exact ⟨.inr ⟨n, rfl⟩, rfl⟩
 ·injection h with h; subst h; exact ⟨.inl rfl, rfl⟩
 ·cases h
theorem xO (h : Rel C N G cls s a w) {r : ResultVar} {op : XOp} (hc : yi P N r = some op) (hok : (cE s op).ok) :
  ∃ v, (sF a.tmps r).run P w = .ok v w /\ Sees G (cE s op).val v /\ OwnAt G (Own C cls) (cE s op).val v := by
 cases r with
 | tmp t =>
  replace hc : (if t < N then some (XOp.move (.tmp t)) else none) = some op := hc
  split at hc
  ·rename_i ht
   injection hc with hc; subst hc
   exact ⟨_, rfl, h.env t ht⟩
  ·cases hc
 | cell t ty =>
  replace hc : (if t < N then dG P ty (.tmp t) else none) = some op := hc
  split at hc
  ·rename_i ht
   obtain ⟨h1, h2⟩ := vu hc
   have hfx : dg N (.tmp t) = true := by simpa [dg] using ht
   obtain ⟨v, h3, h4, _, h6⟩ := nn (P := P) h { (default : Oper) with dst := none, op := .load ty (.tmp t) } op hc h2 (by simp [aD, Op.operands, hfx]) hok
   obtain ⟨p, hp⟩ := Fs h hfx h1 hok
   have h7 := h6 G w (Ext.refl G) h.ok fun _ _ => rfl
   have hp' : a.tmps.getD t undef = .pointer (some p) := hp
   refine ⟨v, ?_, h3, h4⟩
   simp only [execOp, Instr.loadAt, Instr.sureAddr, hp, Sem.run_bind, Sem.run_pure, Result.andThen_ok] at h7
   unfold sF
   simp only [hp', asAddr, Sem.run_bind, Sem.run_pure, Result.andThen_ok]
   cases hl : (loadVar ty p).run P w with
   | ok v' w' => rw [hl] at h7; simpa using h7
   | halt x w' => rw [hl] at h7; simp at h7
  ·cases hc
theorem qm (h : Rel C N G cls s a w) : ∀ (rs : List ResultVar) (ops : List XOp), rs.mapM (yi P N) = some ops -> qq s ops ->
  ∃ vs : List Value, (rs.mapM (sF a.tmps)).run P w = .ok vs w /\ vs.length = ops.length /\ ∀ (j : Nat) (op : XOp), ops[j]? = some op -> Sees G (cE s op).val (vs.getD j undef) /\ OwnAt G (Own C cls) (cE s op).val (vs.getD j undef)
 | [], ops, hc, _ => by
  simp at hc; subst hc
  exact ⟨[], by simp, rfl, fun j op hj => by simp at hj⟩
 | r :: rs, ops, hc, hok => by
  simp only [Rp, Option.bind_eq_bind, Option.pure_def] at hc
  cases hr : yi P N r with
  | none => rw [hr] at hc; cases hc
  | some op =>
   cases hrs : rs.mapM (yi P N) with
   | none => rw [hr, hrs] at hc; cases hc
   | some ops' =>
    rw [hr, hrs] at hc
    simp at hc; subst hc
    obtain ⟨v, h1, h2, h3⟩ := xO h hr hok.1
    obtain ⟨vs, h4, h5, h6⟩ := qm h rs ops' hrs hok.2
    refine ⟨v :: vs, ?_, by simp [h5], fun j o hj => ?_⟩
    ·simp only [Rp, Sem.run_bind, h1, Result.andThen_ok, h4, Sem.run_pure]
    ·cases j with
     | zero => simp at hj; subst hj; exact ⟨h2, h3⟩
     | succ j => simpa using h6 j o (by simpa using hj)
theorem qF (h : Rel C N G cls s a w) (fn : Func) (rs : List XOp) (hc : fn.results.toList.mapM (yi P N) = some rs) (hok : qq s rs) : ∃ v, (results fn a.tmps).run P w = .ok v w /\ Sees G (mI rs s) v /\ OwnAt G (Own C cls) (mI rs s) v := by
 obtain ⟨vs, h1, h2, h3⟩ := qm (P := P) h fn.results.toList rs hc hok
 have hrun : (results fn a.tmps).run P w = .ok (if h : vs.toArray.size = 1 then vs.toArray[0] else .tuple vs.toArray) w := by
  show (do let vs <- fn.results.mapM (sF a.tmps)
           pure (if h : vs.size = 1 then vs[0] else .tuple vs) : Sem Value).run P w = _
  rw [Array.mapM_eq_mapM_toList]
  simp only [Sem.run_bind, Sem.run_map, h1, Result.andThen_ok, Sem.run_pure]
 refine ⟨_, hrun, ?_⟩
 by_cases hl : vs.length = 1
 ·obtain ⟨v, rfl⟩ : ∃ v, vs = [v] := Q9.1 hl
  obtain ⟨op, rfl⟩ : ∃ op, rs = [op] := Q9.1 (by rw [<- h2]; rfl)
  exact h3 0 op rfl
 ·have hx : mI rs s = .tup (rs.map fun x => (cE s x).val.unown) := by
   unfold mI
   split
   ·simp at h2; exact absurd h2 hl
   ·rfl
  rw [hx]
  refine ⟨?_, .none _ rfl⟩
  rw [dif_neg (by simpa using hl)]
  refine .tup _ _ (by simpa using h2) fun j c hj => ?_
  rw [Q8] at hj
  cases ho : rs[j]? with
  | none => rw [ho] at hj; cases hj
  | some op => rw [ho] at hj; injection hj with hj; subst hj; exact (h3 j op ho).1.unown
end
theorem gJ (m : Nat) (x : AV) : (ky m x = x /\ x.idOf = none) \/ (ky m x = x.unown /\ x.idOf ≠ none) \/ ∃ c, x.idOf = some c /\ ky m x = x.relabel .res /\ ∀ i j, c = .cell i j -> m <= i := by
 cases x with
 | sl k es nul room =>
  cases room with
  | own c =>
   cases c with
   | cell i j =>
    unfold ky
    by_cases hi : i < m
    ·right; left; simp [hi, AV.unown, AV.idOf]
    ·right; right
     refine ⟨_, rfl, by simp [hi, AV.relabel], fun i' j' e => ?_⟩
     injection e with e; omega
   | _ => right; right; exact ⟨_, rfl, rfl, fun i j e => by cases e⟩
  | _ => exact .inl ⟨rfl, rfl⟩
 | _ => exact .inl ⟨rfl, rfl⟩
theorem aF {P : Program} {f : FuncId} {X : XFun} (y : XCode) (hf : ak P f = some X) (hy : y.strip = X.code) (hm : P.follows .mixedOrders = true) {args : List AV} {h : List (List AV)} {r : AV} {h' : List (List AV)} {wr : List Nat} (ha : args.length <= X.n)
  (hx : aw h.length h -> dP h.length args -> dU P ⟨h, args⟩ y (enter args h) (GS X.res h.length r h' wr)) : Contract P f args h r h' wr := by
 unfold ak at hf
 split at hf
 ·rename_i fn hfn
  split at hf
  ·rename_i c hb
   split at hf
   ·rename_i hname
    split at hf
    ·rename_i x rs hc hr
     injection hf with hf; subst hf
     refine ⟨⟨fn, hfn, hname, by rw [hb]; rfl⟩, fun G w vs cls hW hS hvs hown hoh => ?_⟩
     have hlen : h.length = G.boxes.length := by rw [hS.1, hW.len]
     have hx := hx (lK fun i e he => em fun j c hj => by
      have hi : i < G.boxv.length := by rw [<- hS.1]; exact (Q2.1 he).1
      rw [hlen]
      exact ((hS.2 i e _ he (Q1 hi)).2.2 j c hj).lt) (em fun j c hj => by rw [hlen]; exact (hvs.2 j c hj).lt)
     let C : Ctx := ⟨G, aS G args vs h⟩
     have hl : vs.length = args.length := hvs.1
     have hR : Rel C fn.ntmps G cls (enter args h) { tmps := vs.toArray ++ Ro (fn.ntmps - vs.toArray.size) undef, defers := [] } w := by
      refine ⟨hW, hS, fun i cs us h1 h2 j c hj => ?_, fun t ht => ?_, fun t ht => ?_, ?_, Marks.none _ _, Ext.refl G, fun _ _ _ => rfl, fun _ _ hb _ => hb⟩
      ·obtain ⟨h3, h4⟩ := hoh i cs us h1 h2 j c hj
       exact ⟨h3.imp2 fun b y B hB _ _ hcl => ⟨hcl, .inr (.inr ⟨i, cs, us, j, c, h1, h2, hj, hB⟩)⟩, h4⟩
      ·rw [pA]
       cases hat : args[t]? with
       | none => exact ⟨.any _, trivial⟩
       | some x =>
        have hlt : t < vs.length := by rw [hl]; exact (Q2.1 hat).1
        have e : (vs.toArray ++ Ro (fn.ntmps - vs.toArray.size) undef).getD t undef = vs.getD t undef := by
         rw [Array.getD_eq_getD_getElem?, Array.getElem?_append_left (by simpa using hlt), Q0]
         simp
        show Sees G x _ /\ OwnAt G _ x _
        rw [e]
        exact ⟨hvs.2 t x hat, (hown t x hat).1.imp2 fun b y B hB _ _ hcl => ⟨hcl, .inr (.inl ⟨t, x, hat, hB⟩)⟩⟩
      ·rw [pA]
       cases hat : args[t]? with
       | none => rfl
       | some x =>
        show x.idOf = none
        cases hi : x.idOf with
        | none => rfl
        | some y =>
         have := gz true args 0 t x (Rl _) (by simpa using hat) (by rw [hi]; rfl)
         rw [show (enter args h).own = dh true 0 args from rfl, this] at ht
         cases ht
      ·have : args.length <= fn.ntmps := ha
       simp; omega
     refine (callsIn_wide (n := 0)).1 (callsIn_of_wp_marks (F := Fr none) hfn hb trivial (wpIn_mono (yc (rr := none) (C := C) hm hS.1.symm (by show G.boxes.length = _; rw [<- hW.len]; exact hS.1.symm) ⟨hS, fun hp => gO (m := ⟨h, args⟩) hp⟩ y y.okIn_none c (by rw [hy]; exact hc) _ _ hx G cls _ w hR) fun e a' w' hh => ?_))
     have fin0 : ∀ s G' cls' a' w', Rel C fn.ntmps G' cls' s a' w' -> wQ rs h.length r h' wr s -> ∃ v, (results fn a'.tmps).run P w' = .ok v w' /\ ∃ v' G'' cls'', Ending.returned v = .returned v' /\ After G (aS G args vs h) r h' wr v' G'' cls'' w' := by
      intro s G' cls' a' w' hR' hL
      obtain ⟨l1, l2, l3, l4, l5, l6, l7, l8⟩ := hL
      obtain ⟨v, hv, hs, ho⟩ := qF (P := P) hR' fn rs hr l1
      refine ⟨v, hv, v, ?_⟩
      have hq : Leq h.length { s with env := [], own := [] } ⟨[], [], h', wr⟩ := ⟨l2, l3, l6, l7, trivial, trivial, l8⟩
      have hR0 : Rel C fn.ntmps G' cls' { s with env := [], own := [] } a' w' :=
       ⟨hR'.ok, hR'.heap, hR'.ownh, fun t ht => ⟨.any _, trivial⟩, fun t ht => rfl, hR'.size, hR'.defers, hR'.ext, hR'.boxes, hR'.bufs⟩
      have hR2 : Rel C fn.ntmps (G'.trunc h'.length) cls' ⟨[], [], h', wr⟩ a' w' := by
       obtain ⟨G2, hG2, hR2⟩ := hq.rel' hS.1.symm (by show G.boxes.length = _; rw [<- hW.len]; exact hS.1.symm) hR0
       rw [hG2] at hR2
       exact hR2
      have hs2 : Sees (G'.trunc h'.length) r v := by
       have : Sees G' (ky h'.length (mI rs s)) v := by
        rcases gJ h'.length (mI rs s) with ⟨e, _⟩ | ⟨e, _⟩ | ⟨c, _, e, _⟩ <;> rw [e]
        ·exact hs
        ·exact hs.unown
        ·exact hs.relabel _
       exact (l4.sees this).trunc l5
      obtain ⟨cls2, k1, k2⟩ : ∃ cls2 : Nat -> Id, OwnAt G' (fun b c => cls2 b = c /\ (G.bufs b = none \/ aS G args vs h b)) (ky h'.length (mI rs s)) v /\ ∀ b i j, i < h'.length -> cls' b = .cell i j -> cls2 b = cls' b := by
       rcases gJ h'.length (mI rs s) with ⟨e, e2⟩ | ⟨e, _⟩ | ⟨c, e1, e, e2⟩ <;> rw [e]
       ·exact ⟨cls', .none _ e2, fun _ _ _ _ _ => rfl⟩
       ·exact ⟨cls', .none _ (AV.idOf_unown _), fun _ _ _ _ _ => rfl⟩
       ·classical
        refine ⟨fun b => if cls' b = c then .res else cls' b, ho.relabel _ fun b y B _ hy _ hcl => ?_, fun b i j hi hb => ?_⟩
        ·rw [e1] at hy; injection hy with hy; subst hy
         exact ⟨by show (if _ then _ else _) = _; rw [if_pos hcl.1], hcl.2⟩
        ·show (if _ then _ else _) = _
         rw [if_neg]
         intro hh
         have := e2 i j (hh.symm.trans hb)
         omega
      refine ⟨G'.trunc h'.length, cls2, rfl, hR2.ext, hR2.ok, hR2.heap, fun i cs us h1 h2 j c hj => ?_, hs2, ?_, fun c hc => ?_, fun i hi hn => hR2.boxes i hi hn, fun b B hb hT => hR2.bufs b B hb hT⟩
      ·obtain ⟨h3, h4⟩ := hR2.ownh i cs us h1 h2 j c hj
       have hi : i < h'.length := (Q2.1 h1).1
       refine ⟨h3.imp2 fun b y B _ hy _ hcl => ?_, h4⟩
       have := h4 y hy
       subst this
       exact ⟨(k2 b i j hi hcl.1).trans hcl.1, hcl.2⟩
      ·have : Sees G' (ky h'.length (mI rs s)) v := by
        rcases gJ h'.length (mI rs s) with ⟨e, _⟩ | ⟨e, _⟩ | ⟨c, _, e, _⟩ <;> rw [e]
        ·exact hs
        ·exact hs.unown
        ·exact hs.relabel _
       exact (l4.own this k1).keep fun b B c hb _ => hb
      ·rcases l4.id with e | e | e | ⟨_, e, _⟩
       ·rw [e] at hc; cases hc
       ·rw [e] at hc; injection hc with hc; exact hc.symm
       ·rw [e] at hc
        rcases gJ h'.length (mI rs s) with ⟨e3, e2⟩ | ⟨e3, _⟩ | ⟨c', e1, e3, _⟩ <;> rw [e3] at hc
        ·rw [e2] at hc; cases hc
        ·rw [AV.idOf_unown] at hc; cases hc
        ·rw [ga, e1] at hc; injection hc with hc; exact hc.symm
       ·cases e
     have fin : ∀ (Ds : List Nat) (s : St) (G' : Ghost) (cls' : Nat -> Id) (a' : Act) (w' : World), a'.defers = Ds.map fV -> Rel C fn.ntmps G' cls' s a' w' -> wQ rs h.length r h' wr s ->
       LeavesInM (Fr none) 0 P fn a'.tmps (fun e w' => ∃ v G' cls', e = .returned v /\ After G (aS G args vs h) r h' wr v G' cls' w') a'.defers .returning w' := by
      intro Ds
      induction Ds with
      | nil =>
       intro s G' cls' a' w' hd hR' hL
       rw [hd]
       obtain ⟨v, hv, v', G2, c2, e, hA⟩ := fin0 s G' cls' a' w' hR' hL
       exact ⟨v, hv, v', G2, c2, e, hA⟩
      | cons D Ds ih =>
       intro s G' cls' a' w' hd hR' hL
       obtain ⟨hobj, hR2⟩ := hR'.shut hd
       rw [hd]
       exact ⟨by simp, .inl ⟨D, _, rfl, run_takeDeferred hobj, ih s _ cls' { a' with defers := Ds.map fV } _ rfl hR2 hL⟩⟩
     cases e with
     | normal => obtain ⟨s, G', cls', h1, h2⟩ := hh; obtain ⟨Ds, hd, _⟩ := h1.defers; exact fin Ds s G' cls' a' w' hd h1 h2
     | ret => obtain ⟨s, G', cls', h1, h2⟩ := hh; obtain ⟨Ds, hd, _⟩ := h1.defers; exact fin Ds s G' cls' a' w' hd h1 h2
     | exit id => obtain ⟨s, G', cls', h1, h2⟩ := hh; exact h2.elim
     | _ => exact hh.elim
    ·cases hf
   ·cases hf
  ·cases hf
 ·cases hf
theorem bQ {P : Program} {N : Nat} : ∀ (c : Code) (x : XCode), bq P N c = some x -> x.strip = x
 | .scope c, x, h => bQ c x h
 | .skip, x, h => by injection h with h; subst h; rfl
 | .label _, x, h => by injection h with h; subst h; rfl
 | .ret, x, h => by injection h with h; subst h; rfl
 | .exit _, x, h => by injection h with h; subst h; rfl
 | .region _ _ _, x, h => by rcases bc h with ⟨_, xs, _, rfl⟩ | ⟨_, _, t, _, rfl⟩ | ⟨_, _, _, _, _, rfl⟩ | ⟨_, _, _, _, _, _, rfl⟩ <;> rfl
 | .seq c d, x, h => by obtain ⟨y, z, h1, h2, rfl⟩ := bT h; simp only [XCode.strip, bQ c y h1, bQ d z h2]
 | .cond v c d, x, h => by obtain ⟨y, z, _, h1, h2, rfl⟩ := bA h; simp only [XCode.strip, bQ c y h1, bQ d z h2]
 | .block i c, x, h => by obtain ⟨y, h1, rfl⟩ := bn h; simp only [XCode.strip, bQ c y h1]
 | .loop c, x, h => by obtain ⟨y, h1, rfl⟩ := bz h; simp only [XCode.strip, bQ c y h1]
 | .goto _, x, h => by cases h
 | .refuse _, x, h => by cases h
 | .rangeFunc g ps c d, x, h => by obtain ⟨y, z, _, _, _, h1, h2, rfl⟩ := bk h; simp only [XCode.strip, bQ c y h1, bQ d z h2]
theorem vN {P : Program} {f : FuncId} {X : XFun} (hf : ak P f = some X) : X.code.strip = X.code := by
 unfold ak at hf
 split at hf
 ·split at hf
  ·split at hf
   ·split at hf
    ·rename_i x rs hc hr
     injection hf with hf; subst hf
     exact bQ _ _ hc
    ·cases hf
   ·cases hf
  ·cases hf
 ·cases hf
theorem ab {P : Program} {f : FuncId} {X : XFun} (hf : ak P f = some X) (hm : P.follows .mixedOrders = true) {args : List AV} {h : List (List AV)} {r : AV} {h' : List (List AV)} {wr : List Nat} (ha : args.length <= X.n)
  (hx : aw h.length h -> dP h.length args -> dU P ⟨h, args⟩ X.code (enter args h) (GS X.res h.length r h' wr)) : Contract P f args h r h' wr :=
 aF X.code hf (vN hf) hm ha hx
def nV (v : Val) (s : St) (d : Option Nat) (K : St -> List Nat -> Prop) : Prop := v.ok /\ K (s.puts d v.val v.own) v.ld
def Ke (o : Option (List AV)) (s : St) (d : Option Nat) (K : St -> List Nat -> Prop) : Prop := bj o fun l => K ({ s with heap := s.heap ++ [l.map AV.unown] }.puts d (.box s.heap.length 0) false) []
def AF (o : Option (List AV)) (k len : Nat) (s : St) (d : Option Nat) (K : St -> List Nat -> Prop) : Prop := bj o fun cs => K (s.puts d (.sl k (cB k len cs) (some false) .exact) false) []
def zy (o : Option St) (d : Option Nat) (K : St -> List Nat -> Prop) : Prop := bj o fun s' => K (s'.puts d .any false) []
theorem aj {P : Program} {f : FuncId} {args bs : List AV} {s : St} {d : Option Nat} {K : St -> List Nat -> Prop} {r : AV} {h' : List (List AV)} {wr : List Nat} (hc : Contract P f bs s.heap r h' wr) (hf : gS 0 args bs) (hn : (bD (cC args bs)).Nodup) (hk : K (s.called (cC args bs) d r h' wr) []) : kO P f args s d K :=
 .inl ⟨bs, r, h', wr, hc, hf, hn, hk⟩
theorem nz {P : Program} {m : Frm} {x : Operand} {ps : List Nat} {a b : XCode} {s : St} {K : XExit -> St -> Prop} {g : FuncId} {cap : List AV} {n : Nat} {xs : Nat -> List AV} {R : List (List AV) -> Prop} {E : Nat -> List (List AV)} (hI : xt P g cap n xs true R E) (H : Nat -> List (List AV)) (wr : List Nat)
  (hg : s.get x = .fn (.func g) [] cap) (hc : ∀ y ∈ cap, y.idOf = none) (oa : ∀ l, a.okIn (some l)) (ob : ∀ l, b.okIn (some l)) (e0 : H 0 = s.heap) (hl : ∀ j, j <= n -> (H j).length = s.heap.length) (hR : ∀ j, j <= n -> R (H j ++ [aJ false false])) (hn : aw s.heap.length (H n))
  (hround : ∀ j, j < n -> (xs j).length = ps.length /\ (∀ y ∈ xs j, y.idOf = none) /\ dU P ⟨H j ++ [aJ false false] ++ E j, xs j⟩ a (s.round ps (xs j) (H j ++ [aJ false false] ++ E j)) (XExit.then (fun s1 => s1.heap[s.heap.length]? = some (aJ false false) /\ dU P ⟨H j ++ [aJ false false] ++ E j, xs j⟩ b (s1.turn s.heap.length true false) (BG s.heap.length (s.heap.length + 1 + (E j).length) false .ret (H (j + 1) ++ [aJ false false] ++ E j) wr)) (fun _ _ => False)))
  (hK : K .normal ⟨s.env, fp (br []) s.own, H n, wr ++ s.wr⟩) : dU P m (.range x ps a b) s K := by
 refine ⟨oa, ob, g, cap, n, xs, true, R, .ret, fun j => H j ++ [aJ false false], wr, H n, E, hg, hc, hI, by show H 0 ++ _ = _; rw [e0], hR, fun j hj => ?_, rfl, hl n (Rf _), hn, fun _ => hK, fun h => by cases h⟩
 obtain ⟨h1, h2, h3⟩ := hround j hj
 have hlj := hl j (by omega)
 refine ⟨h1, h2, by rw [<- hlj]; simp, ?_⟩
 have e : (H j ++ [aJ false false] ++ E j).length = s.heap.length + 1 + (E j).length := by simp [hlj]; omega
 rw [e]
 exact h3
theorem vY {P : Program} {m : Frm} {x : Operand} {ps : List Nat} {a b : XCode} {s : St} {K : XExit -> St -> Prop} {g : FuncId} {cap : List AV} {n : Nat} {xs : Nat -> List AV} {R : List (List AV) -> Prop} (hI : Iter P g cap n xs true R) (H : Nat -> List (List AV)) (wr : List Nat)
  (hg : s.get x = .fn (.func g) [] cap) (hc : ∀ y ∈ cap, y.idOf = none) (oa : ∀ l, a.okIn (some l)) (ob : ∀ l, b.okIn (some l)) (e0 : H 0 = s.heap) (hl : ∀ j, j <= n -> (H j).length = s.heap.length) (hR : ∀ j, j <= n -> R (H j ++ [aJ false false])) (hn : aw s.heap.length (H n))
  (hround : ∀ j, j < n -> (xs j).length = ps.length /\ (∀ y ∈ xs j, y.idOf = none) /\ dU P ⟨H j ++ [aJ false false], xs j⟩ a (s.round ps (xs j) (H j ++ [aJ false false])) (XExit.then (fun s1 => s1.heap[s.heap.length]? = some (aJ false false) /\ dU P ⟨H j ++ [aJ false false], xs j⟩ b (s1.turn s.heap.length true false) (BG s.heap.length (s.heap.length + 1) false .ret (H (j + 1) ++ [aJ false false]) wr)) (fun _ _ => False)))
  (hK : K .normal ⟨s.env, fp (br []) s.own, H n, wr ++ s.wr⟩) : dU P m (.range x ps a b) s K := by
 refine nz hI.none H wr hg hc oa ob e0 hl hR hn (fun j hj => ?_) hK
 have := hround j hj
 simp only [Re, List.length_nil, Nat.add_zero]
 exact this
@[simp] theorem EV (n : Nat) (x y : Bool) : dP n (aJ x y) = True := eq_true ⟨trivial, trivial, trivial, trivial⟩
@[simp] theorem DI (x y : Bool) : (aJ x y).map AV.unown = aJ x y := rfl
@[simp] theorem GG : jr [] = [] := rfl
@[simp] theorem Ep (k : Nat) (a : AV) (r : List (Nat × AV)) : jr ((k, a) :: r) = (k, a.unown) :: jr r := rfl
attribute [simp] St.round St.turn
theorem zA {P : Program} {m : Frm} {a : XCode} {s : St} {K : XExit -> St -> Prop} {D : Type} (inv : D -> St) (μ : D -> Nat) (d0 : D) (h0 : Leq m.h.length s (inv d0)) (hr : ∀ d, dU P m a (inv d) (XExit.then (fun s' => ∃ d', μ d' < μ d /\ Leq m.h.length s' (inv d')) K)) : dU P m (.loop a) s K :=
 ⟨D, inv, μ, ⟨d0, h0⟩, hr⟩
section
variable {P : Program} {m : Frm} {e o : List (Nat × AV)} {h : List (List AV)} {wr : List Nat} {s : St} {K : XExit -> St -> Prop}
@[simp] theorem Ka : dU P m .skip ⟨e, o, h, wr⟩ K = K .normal ⟨e, o, h, wr⟩ := ae
@[simp] theorem L3 (xs : List XOper) : dU P m (.ops xs) ⟨e, o, h, wr⟩ K = gj P xs ⟨e, o, h, wr⟩ [] fun s' _ => K .normal s' := ae
@[simp] theorem IZ (t : XTree) : dU P m (.draws t) ⟨e, o, h, wr⟩ K = bR P t ⟨e, o, h, wr⟩ [] (K .normal) := ae
@[simp] theorem LJ (a b : XCode) : dU P m (.seq a b) ⟨e, o, h, wr⟩ K = dU P m a ⟨e, o, h, wr⟩ (XExit.then (fun s' => dU P m b s' K) K) := ae
@[simp] theorem IN (id : Nat) (a : XCode) : dU P m (.block id a) ⟨e, o, h, wr⟩ K = dU P m a ⟨e, o, h, wr⟩ (XExit.inBlock id K) := ae
@[simp] theorem KH (id : Nat) : dU P m (.exit id) ⟨e, o, h, wr⟩ K = K (.exit id) ⟨e, o, h, wr⟩ := ae
@[simp] theorem LY : dU P m .ret ⟨e, o, h, wr⟩ K = K .ret ⟨e, o, h, wr⟩ := ae
@[simp] theorem Fe (x : Operand) (a b : XCode) (hx : St.get ⟨e, o, h, wr⟩ x = .v (.bool true)) : dU P m (.cond x a b) ⟨e, o, h, wr⟩ K = dU P m a ⟨e, o, h, wr⟩ K := by simp [dU, hx, rP]
@[simp] theorem Hu (x : Operand) (a b : XCode) (hx : St.get ⟨e, o, h, wr⟩ x = .v (.bool false)) : dU P m (.cond x a b) ⟨e, o, h, wr⟩ K = dU P m b ⟨e, o, h, wr⟩ K := by simp [dU, hx, rP]
theorem aY {x : Operand} {a b : XCode} (c : Bool) (hx : St.get s x = .v (.bool c)) (ht : c = true -> dU P m a s K) (hf : c = false -> dU P m b s K) : dU P m (.cond x a b) s K := by
 unfold dU rP; rw [hx]; exact ⟨ht, hf⟩
@[simp] theorem EB (k : St -> Prop) : XExit.then k K .normal ⟨e, o, h, wr⟩ = k ⟨e, o, h, wr⟩ := ae
@[simp] theorem IA (k : St -> Prop) (id : Nat) : XExit.then k K (.exit id) ⟨e, o, h, wr⟩ = K (.exit id) ⟨e, o, h, wr⟩ := ae
@[simp] theorem Kn (k : St -> Prop) : XExit.then k K .ret ⟨e, o, h, wr⟩ = K .ret ⟨e, o, h, wr⟩ := ae
@[simp] theorem DK (id : Nat) : XExit.inBlock id K .normal ⟨e, o, h, wr⟩ = K .normal ⟨e, o, h, wr⟩ := ae
@[simp] theorem EQ (id : Nat) : XExit.inBlock id K (.exit id) ⟨e, o, h, wr⟩ = K .normal ⟨e, o, h, wr⟩ := by simp [XExit.inBlock]
@[simp] theorem DS (id i : Nat) (hi : i ≠ id) : XExit.inBlock id K (.exit i) ⟨e, o, h, wr⟩ = K (.exit i) ⟨e, o, h, wr⟩ := by simp [XExit.inBlock, hi]
@[simp] theorem Ip (id : Nat) : XExit.inBlock id K .ret ⟨e, o, h, wr⟩ = K .ret ⟨e, o, h, wr⟩ := ae
end
attribute [simp] XCode.cuts XCode.inside
section
variable {P : Program} {e o : List (Nat × AV)} {h : List (List AV)} {wr : List Nat} {K : St -> List Nat -> Prop} {d : Option Nat} {ld : List Nat}
@[simp] theorem Lk (k : St -> Prop) : ff ⟨e, o, h, wr⟩ k = k ⟨e, o, h, wr⟩ := ae
@[simp] theorem JK : gj P [] ⟨e, o, h, wr⟩ ld K = K ⟨e, o, h, wr⟩ ld := ae
@[simp] theorem IM (op : XOp) (r : List XOper) : gj P (⟨d, op, none⟩ :: r) ⟨e, o, h, wr⟩ ld K = bL P d op ⟨e, o, h, wr⟩ fun s' l => ff s' fun s' => gj P r s' (l ++ ld) K := ae
@[simp] theorem Jg (op : XOp) (g : Nat) (w : Bool) (r : List XOper) (hg : St.look ⟨e, o, h, wr⟩ g = .v (.bool w)) : gj P (⟨d, op, some (g, w)⟩ :: r) ⟨e, o, h, wr⟩ ld K = bL P d op ⟨e, o, h, wr⟩ fun s' l => ff s' fun s' => gj P r s' (l ++ ld) K := by
 rw [gj]; simp [eG, hg, cH]
@[simp] theorem Gd (op : XOp) (g : Nat) (w : Bool) (r : List XOper) (hg : St.look ⟨e, o, h, wr⟩ g = .v (.bool (!w))) : gj P (⟨d, op, some (g, w)⟩ :: r) ⟨e, o, h, wr⟩ ld K = ff (St.puts ⟨e, o, h, wr⟩ d (.v undef) false) fun s' => gj P r s' ld K := by
 rw [gj]; cases w <;> simp [eG, hg, cH]
@[simp] theorem EN (op : XOp) (g : Nat) (w : Bool) (r : List XOper) (hg : St.look ⟨e, o, h, wr⟩ g = .v undef) : gj P (⟨d, op, some (g, w)⟩ :: r) ⟨e, o, h, wr⟩ ld K = ff (St.puts ⟨e, o, h, wr⟩ d (.v undef) false) fun s' => gj P r s' ld K := by
 rw [gj]; simp [eG, hg, cH, undef]
@[simp] theorem MR (p : Prop) (a : AV) (w : Bool) (l : List Nat) : nV ⟨p, a, w, l⟩ ⟨e, o, h, wr⟩ d K = (p /\ K (St.puts ⟨e, o, h, wr⟩ d a w) l) := ae
@[simp] theorem Iu (a_x : Operand) : bL P d (.move a_x) ⟨e, o, h, wr⟩ K = bp P d (.move a_x) ⟨e, o, h, wr⟩ K := ae
@[simp] theorem Ek (a_x : Operand) : bL P d (.assign a_x) ⟨e, o, h, wr⟩ K = bp P d (.assign a_x) ⟨e, o, h, wr⟩ K := ae
@[simp] theorem I1 (a_c a_a a_b : Operand) : bL P d (.pick a_c a_a a_b) ⟨e, o, h, wr⟩ K = bp P d (.pick a_c a_a a_b) ⟨e, o, h, wr⟩ K := ae
@[simp] theorem HY (a_z : List AV) : bL P d (.alloc a_z) ⟨e, o, h, wr⟩ K = bp P d (.alloc a_z) ⟨e, o, h, wr⟩ K := ae
@[simp] theorem Js (a_x : Operand) : bL P d (.box a_x) ⟨e, o, h, wr⟩ K = bp P d (.box a_x) ⟨e, o, h, wr⟩ K := ae
@[simp] theorem FW (a_z : List AV) (a_parts : List (Nat × Nat × Operand)) : bL P d (.build a_z a_parts) ⟨e, o, h, wr⟩ K = bp P d (.build a_z a_parts) ⟨e, o, h, wr⟩ K := ae
@[simp] theorem yT (a_k a_len : Nat) (a_z : List AV) (a_parts : List (Nat × Operand)) : bL P d (.buildSlice a_k a_len a_z a_parts) ⟨e, o, h, wr⟩ K = bp P d (.buildSlice a_k a_len a_z a_parts) ⟨e, o, h, wr⟩ K := ae
@[simp] theorem Hq (a_x : Operand) : bL P d (.load1 a_x) ⟨e, o, h, wr⟩ K = bp P d (.load1 a_x) ⟨e, o, h, wr⟩ K := ae
@[simp] theorem EI (a_n : Nat) (a_x : Operand) : bL P d (.loadN a_n a_x) ⟨e, o, h, wr⟩ K = bp P d (.loadN a_n a_x) ⟨e, o, h, wr⟩ K := ae
@[simp] theorem GI (a_n : Nat) (a_p a_x : Operand) : bL P d (.store a_n a_p a_x) ⟨e, o, h, wr⟩ K = bp P d (.store a_n a_p a_x) ⟨e, o, h, wr⟩ K := ae
@[simp] theorem BH (a_x : Operand) : bL P d (.nilCheck a_x) ⟨e, o, h, wr⟩ K = bp P d (.nilCheck a_x) ⟨e, o, h, wr⟩ K := ae
@[simp] theorem Kr (a_op : BinOp) (a_x a_y : Operand) : bL P d (.bin a_op a_x a_y) ⟨e, o, h, wr⟩ K = bp P d (.bin a_op a_x a_y) ⟨e, o, h, wr⟩ K := ae
@[simp] theorem Kl (a_neg : Bool) (a_x a_y : Operand) : bL P d (.beq a_neg a_x a_y) ⟨e, o, h, wr⟩ K = bp P d (.beq a_neg a_x a_y) ⟨e, o, h, wr⟩ K := ae
@[simp] theorem Ho (a_neg : Bool) (a_x : Operand) : bL P d (.nileq a_neg a_x) ⟨e, o, h, wr⟩ K = bp P d (.nileq a_neg a_x) ⟨e, o, h, wr⟩ K := ae
@[simp] theorem D4 (a_neg : Bool) (a_x : Operand) : bL P d (.pnileq a_neg a_x) ⟨e, o, h, wr⟩ K = bp P d (.pnileq a_neg a_x) ⟨e, o, h, wr⟩ K := ae
@[simp] theorem LP (a_op : UnOp) (a_x : Operand) : bL P d (.un a_op a_x) ⟨e, o, h, wr⟩ K = bp P d (.un a_op a_x) ⟨e, o, h, wr⟩ K := ae
@[simp] theorem JS (a_x : Operand) : bL P d (.b2s a_x) ⟨e, o, h, wr⟩ K = bp P d (.b2s a_x) ⟨e, o, h, wr⟩ K := ae
@[simp] theorem Il (a_f : Fn) (a_first a_cap : List Operand) : bL P d (.mkfn a_f a_first a_cap) ⟨e, o, h, wr⟩ K = bp P d (.mkfn a_f a_first a_cap) ⟨e, o, h, wr⟩ K := ae
@[simp] theorem GC (a_off : Nat) (a_x : Operand) : bL P d (.faddr a_off a_x) ⟨e, o, h, wr⟩ K = bp P d (.faddr a_off a_x) ⟨e, o, h, wr⟩ K := ae
@[simp] theorem Gj (a_k : Nat) (a_x a_i : Operand) : bL P d (.iaddr a_k a_x a_i) ⟨e, o, h, wr⟩ K = bp P d (.iaddr a_k a_x a_i) ⟨e, o, h, wr⟩ K := ae
@[simp] theorem CI (a_x : Operand) (a_i : Nat) : bL P d (.extract a_x a_i) ⟨e, o, h, wr⟩ K = bp P d (.extract a_x a_i) ⟨e, o, h, wr⟩ K := ae
@[simp] theorem H7 (a_x : Operand) : bL P d (.lenS a_x) ⟨e, o, h, wr⟩ K = bp P d (.lenS a_x) ⟨e, o, h, wr⟩ K := ae
@[simp] theorem IX (a_x : Operand) : bL P d (.lenL a_x) ⟨e, o, h, wr⟩ K = bp P d (.lenL a_x) ⟨e, o, h, wr⟩ K := ae
@[simp] theorem IT (a_xs : List Operand) : bL P d (.maxI a_xs) ⟨e, o, h, wr⟩ K = bp P d (.maxI a_xs) ⟨e, o, h, wr⟩ K := ae
@[simp] theorem Eg (a_k a_bytes : Nat) (a_s a_x : Operand) : bL P d (.append a_k a_bytes a_s a_x) ⟨e, o, h, wr⟩ K = bp P d (.append a_k a_bytes a_s a_x) ⟨e, o, h, wr⟩ K := ae
@[simp] theorem Dh (a_s a_x : Operand) : bL P d (.appendS a_s a_x) ⟨e, o, h, wr⟩ K = bp P d (.appendS a_s a_x) ⟨e, o, h, wr⟩ K := ae
@[simp] theorem JR (a_x : Operand) : bL P d (.s2b a_x) ⟨e, o, h, wr⟩ K = bp P d (.s2b a_x) ⟨e, o, h, wr⟩ K := ae
@[simp] theorem Cq (a_k a_bytes : Nat) (a_x : Operand) : bL P d (.appendN a_k a_bytes a_x) ⟨e, o, h, wr⟩ K = bp P d (.appendN a_k a_bytes a_x) ⟨e, o, h, wr⟩ K := ae
@[simp] theorem I9 (a_f : FuncId) (a_args : List Operand) : bL P d (.call a_f a_args) ⟨e, o, h, wr⟩ K = bp P d (.call a_f a_args) ⟨e, o, h, wr⟩ K := ae
@[simp] theorem GB (x : Operand) (args : List Operand) : bL P d (.callv x args) ⟨e, o, h, wr⟩ K = fI P (St.get ⟨e, o, h, wr⟩ x) (args.map fun x => St.get ⟨e, o, h, wr⟩ x) ⟨e, o, h, wr⟩ d K := ae
@[simp] theorem G9 (f : Fn) (first cap args : List AV) : fI P (.fn f first cap) args ⟨e, o, h, wr⟩ d K = kY P (.fn f first cap) args ⟨e, o, h, wr⟩ d K := ae
@[simp] theorem D5 (i : Nat) (r : Loop) (c : Code) (slots args : List AV) : fI P (.yld i r c slots) args ⟨e, o, h, wr⟩ d K = sJ P i r c slots args ⟨e, o, h, wr⟩ d K := ae
@[simp] theorem ED (a_ks : Option IntKind) (a_n : Nat) (a_one a_c : Bool) (a_z : List AV) (a_x a_k : Operand) : bL P d (.lookup a_ks a_n a_one a_c a_z a_x a_k) ⟨e, o, h, wr⟩ K = bp P d (.lookup a_ks a_n a_one a_c a_z a_x a_k) ⟨e, o, h, wr⟩ K := ae
@[simp] theorem IV (a_n : Nat) (a_one : Bool) (a_x : Operand) : bL P d (.lenM a_n a_one a_x) ⟨e, o, h, wr⟩ K = bp P d (.lenM a_n a_one a_x) ⟨e, o, h, wr⟩ K := ae
@[simp] theorem D3 (a_neg : Bool) (a_x : Operand) : bL P d (.mnileq a_neg a_x) ⟨e, o, h, wr⟩ K = bp P d (.mnileq a_neg a_x) ⟨e, o, h, wr⟩ K := ae
@[simp] theorem DL (a_n : Nat) (a_one : Bool) : bL P d (.makeMap a_n a_one) ⟨e, o, h, wr⟩ K = bp P d (.makeMap a_n a_one) ⟨e, o, h, wr⟩ K := ae
@[simp] theorem Eb (k : Nat) : bL P d (.emptyS k) ⟨e, o, h, wr⟩ K = bp P d (.emptyS k) ⟨e, o, h, wr⟩ K := ae
@[simp] theorem Ge (k : Nat) : bp P d (.emptyS k) ⟨e, o, h, wr⟩ K = K (St.puts ⟨e, o, h, wr⟩ d (.sl k [] (some false) .exact) false) [] := ae
@[simp] theorem GM (ks : Option IntKind) (n : Nat) (one c : Bool) (z : List AV) (x k : Operand) : bp P d (.lookup ks n one c z x k) ⟨e, o, h, wr⟩ K = nV (eW h ks n one c z (St.get ⟨e, o, h, wr⟩ x) (St.get ⟨e, o, h, wr⟩ k)) ⟨e, o, h, wr⟩ d K := ae
@[simp] theorem Ku (n : Nat) (one : Bool) (x : Operand) : bp P d (.lenM n one x) ⟨e, o, h, wr⟩ K = nV (kA h n one (St.get ⟨e, o, h, wr⟩ x)) ⟨e, o, h, wr⟩ d K := ae
@[simp] theorem Fo (neg : Bool) (x : Operand) : bp P d (.mnileq neg x) ⟨e, o, h, wr⟩ K = nV (pt neg (St.get ⟨e, o, h, wr⟩ x)) ⟨e, o, h, wr⟩ d K := ae
@[simp] theorem DO (n : Nat) (one : Bool) : bp P d (.makeMap n one) ⟨e, o, h, wr⟩ K = K (St.puts ⟨e, o, h ++ [bU 0 []], wr⟩ d (.mp h.length n one) false) [] := ae
@[simp] theorem Hp (ks : Option IntKind) (n : Nat) (one : Bool) (m k x : Operand) : bp P d (.mapUpd ks n one m k x) ⟨e, o, h, wr⟩ K = iV ⟨e, o, h, wr⟩ ks n one d (St.get ⟨e, o, h, wr⟩ m) (St.get ⟨e, o, h, wr⟩ k) (St.get ⟨e, o, h, wr⟩ x) K := ae
@[simp] theorem Es {α : Type} (a : α) (k : α -> Prop) : bj (some a) k = k a := ae
@[simp] theorem EY (ks : Option IntKind) (n : Nat) (one : Bool) (i n' : Nat) (one' : Bool) (kv : Value) (x : AV) : iV ⟨e, o, h, wr⟩ ks n one d (.mp i n' one') (.v kv) x K = ((n' = n /\ one' = one) /\ cX ks kv = true /\ bj (eD h n i) fun p => gQ ks p.2 /\ bj (H6 n one x) fun cs =>
  K (St.puts ⟨e, o, h.set i (bU (AEnt.put kv p.1 cs p.2).2 (AEnt.put kv p.1 cs p.2).1), i :: wr⟩ d .any false) []) := ae
def J8 {α : Type} (o : Option α) (f : α -> Val) : Val := match o with | some p => f p | none => .bad
@[simp] theorem JW {α : Type} (p : α) (f : α -> Val) : J8 (some p) f = f p := ae
@[simp] theorem Fc (ks : Option IntKind) (n : Nat) (one c : Bool) (z : List AV) (kv : Value) (i n' : Nat) (one' : Bool) : eW h ks n one c z (.mp i n' one') (.v kv) = J8 (eD h n i) fun p => ⟨(n' = n /\ one' = one) /\ cX ks kv = true /\ gQ ks p.2, found one c z (AEnt.find kv p.2 0), false, [i]⟩ := by
 unfold eW J8; dsimp only; cases eD h n i <;> rfl
@[simp] theorem Jp (n : Nat) (one : Bool) (i n' : Nat) (one' : Bool) : kA h n one (.mp i n' one') = J8 (eD h n i) fun p => ⟨n' = n /\ one' = one, .v (.int .i64 (p.2.length : Int)), false, [i]⟩ := by
 unfold kA J8; dsimp only; cases eD h n i <;> rfl
@[simp] theorem JM (neg : Bool) (i n : Nat) (one : Bool) : pt neg (.mp i n one) = .of (.v (.bool neg)) := ae
@[simp] theorem Lj (n : Nat) (x : AV) (hx : x.one = true) : H6 n true x = some [x.unown] := by unfold H6; simp [hx]
@[simp] theorem Gt (b : ByteArray) : cX none (.string b) = true := ae
@[simp] theorem vP (q : IntKind) (n : Int) : cX (some q) (.int q n) = true := by simp [cX]
attribute [simp] eD yy
@[simp] theorem JJ (x : Operand) : bp P d (.move x) ⟨e, o, h, wr⟩ K = nV ⟨True, St.get ⟨e, o, h, wr⟩ x, St.mine ⟨e, o, h, wr⟩ x, []⟩ ⟨e, o, h, wr⟩ d K := ae
@[simp] theorem Kc (c a b : Operand) : bp P d (.pick c a b) ⟨e, o, h, wr⟩ K = nV (oO (St.get ⟨e, o, h, wr⟩ c) (St.get ⟨e, o, h, wr⟩ a) (St.get ⟨e, o, h, wr⟩ b)) ⟨e, o, h, wr⟩ d K := ae
@[simp] theorem Ie (x : Operand) : bp P d (.load1 x) ⟨e, o, h, wr⟩ K = nV (fq h (St.get ⟨e, o, h, wr⟩ x)) ⟨e, o, h, wr⟩ d K := ae
@[simp] theorem Ia (n : Nat) (x : Operand) : bp P d (.loadN n x) ⟨e, o, h, wr⟩ K = nV (eK h n (St.get ⟨e, o, h, wr⟩ x)) ⟨e, o, h, wr⟩ d K := ae
@[simp] theorem If (z : List AV) (parts : List (Nat × Nat × Operand)) : bp P d (.build z parts) ⟨e, o, h, wr⟩ K = nV (gN z (parts.map fun p => (p.1, p.2.1, St.get ⟨e, o, h, wr⟩ p.2.2))) ⟨e, o, h, wr⟩ d K := ae
@[simp] theorem DJ (x : Operand) : bp P d (.nilCheck x) ⟨e, o, h, wr⟩ K = nV (u0 (St.get ⟨e, o, h, wr⟩ x)) ⟨e, o, h, wr⟩ d K := ae
@[simp] theorem KV (op : BinOp) (x y : Operand) : bp P d (.bin op x y) ⟨e, o, h, wr⟩ K = nV (vJ op (St.get ⟨e, o, h, wr⟩ x) (St.get ⟨e, o, h, wr⟩ y)) ⟨e, o, h, wr⟩ d K := ae
@[simp] theorem Lh (neg : Bool) (x y : Operand) : bp P d (.beq neg x y) ⟨e, o, h, wr⟩ K = nV (vU neg (St.get ⟨e, o, h, wr⟩ x) (St.get ⟨e, o, h, wr⟩ y)) ⟨e, o, h, wr⟩ d K := ae
@[simp] theorem Ig (neg : Bool) (x : Operand) : bp P d (.nileq neg x) ⟨e, o, h, wr⟩ K = nV (lh neg (St.get ⟨e, o, h, wr⟩ x)) ⟨e, o, h, wr⟩ d K := ae
@[simp] theorem E5 (neg : Bool) (x : Operand) : bp P d (.pnileq neg x) ⟨e, o, h, wr⟩ K = nV (pH neg (St.get ⟨e, o, h, wr⟩ x)) ⟨e, o, h, wr⟩ d K := ae
@[simp] theorem LU (neg : Bool) (ts : List Nat) (x y : Operand) : bp P d (.aeq neg ts x y) ⟨e, o, h, wr⟩ K = nV (wc neg ts (St.get ⟨e, o, h, wr⟩ x) (St.get ⟨e, o, h, wr⟩ y)) ⟨e, o, h, wr⟩ d K := ae
@[simp] theorem Ls (x : Operand) : bp P d (.b2s x) ⟨e, o, h, wr⟩ K = nV (vF (St.get ⟨e, o, h, wr⟩ x)) ⟨e, o, h, wr⟩ d K := ae
@[simp] theorem M3 (op : UnOp) (x : Operand) : bp P d (.un op x) ⟨e, o, h, wr⟩ K = nV (Ht op (St.get ⟨e, o, h, wr⟩ x)) ⟨e, o, h, wr⟩ d K := ae
@[simp] theorem KA (f : Fn) (first cap : List Operand) : bp P d (.mkfn f first cap) ⟨e, o, h, wr⟩ K = nV ⟨True, .fn f (first.map fun x => (St.get ⟨e, o, h, wr⟩ x).unown) (cap.map fun x => (St.get ⟨e, o, h, wr⟩ x).unown), false, []⟩ ⟨e, o, h, wr⟩ d K := ae
@[simp] theorem IR (k : Nat) (x : Operand) (lo hi mx : Option Operand) : bp P d (.slice k x lo hi mx) ⟨e, o, h, wr⟩ K = nV (nr k (St.get ⟨e, o, h, wr⟩ x) (fun n => cutAt ⟨e, o, h, wr⟩ n lo hi) (mx.map fun m => jq (St.get ⟨e, o, h, wr⟩ m))) ⟨e, o, h, wr⟩ d K := ae
@[simp] theorem IQ (off : Nat) (x : Operand) : bp P d (.faddr off x) ⟨e, o, h, wr⟩ K = nV (ln off (St.get ⟨e, o, h, wr⟩ x)) ⟨e, o, h, wr⟩ d K := ae
@[simp] theorem Iy (k : Nat) (x i : Operand) : bp P d (.iaddr k x i) ⟨e, o, h, wr⟩ K = nV (lB k (St.get ⟨e, o, h, wr⟩ x) (St.get ⟨e, o, h, wr⟩ i)) ⟨e, o, h, wr⟩ d K := ae
@[simp] theorem DP (x : Operand) (i : Nat) : bp P d (.extract x i) ⟨e, o, h, wr⟩ K = nV (fX (St.get ⟨e, o, h, wr⟩ x) i) ⟨e, o, h, wr⟩ d K := ae
@[simp] theorem Kj (x : Operand) : bp P d (.lenS x) ⟨e, o, h, wr⟩ K = nV (qc (St.get ⟨e, o, h, wr⟩ x)) ⟨e, o, h, wr⟩ d K := ae
@[simp] theorem Km (x : Operand) : bp P d (.lenL x) ⟨e, o, h, wr⟩ K = nV (jj (St.get ⟨e, o, h, wr⟩ x)) ⟨e, o, h, wr⟩ d K := ae
@[simp] theorem J1 (xs : List Operand) : bp P d (.maxI xs) ⟨e, o, h, wr⟩ K = nV (wx (xs.mapM fun x => fz (St.get ⟨e, o, h, wr⟩ x))) ⟨e, o, h, wr⟩ d K := ae
@[simp] theorem FP (n : Nat) (x : Operand) : bp P (some n) (.assign x) ⟨e, o, h, wr⟩ K = K (St.assigned ⟨e, o, h, wr⟩ n x) [] := ae
@[simp] theorem Ij (z : List AV) : bp P d (.alloc z) ⟨e, o, h, wr⟩ K = K (St.puts ⟨e, o, h ++ [z], wr⟩ d (.box h.length 0) false) [] := ae
@[simp] theorem LV (x : Operand) : bp P d (.box x) ⟨e, o, h, wr⟩ K = Ke (St.get ⟨e, o, h, wr⟩ x).cells ⟨e, o, h, wr⟩ d K := ae
@[simp] theorem IE (l : List AV) : Ke (some l) ⟨e, o, h, wr⟩ d K = K (St.puts ⟨e, o, h ++ [l.map AV.unown], wr⟩ d (.box h.length 0) false) [] := ae
@[simp] theorem A8 (k len : Nat) (z : List AV) (parts : List (Nat × Operand)) : bp P d (.buildSlice k len z parts) ⟨e, o, h, wr⟩ K = AF (gF (wD k z len) (parts.map fun p => (p.1 * k, k, St.get ⟨e, o, h, wr⟩ p.2))) k len ⟨e, o, h, wr⟩ d K := ae
@[simp] theorem DY (cs : List AV) (k len : Nat) : AF (some cs) k len ⟨e, o, h, wr⟩ d K = K (St.puts ⟨e, o, h, wr⟩ d (.sl k (cB k len cs) (some false) .exact) false) [] := ae
@[simp] theorem Is (n : Nat) (p x : Operand) : bp P d (.store n p x) ⟨e, o, h, wr⟩ K = zy (St.storedAt ⟨e, o, h, wr⟩ n (St.get ⟨e, o, h, wr⟩ p) (St.get ⟨e, o, h, wr⟩ x)) d K := ae
@[simp] theorem Ej : zy (some ⟨e, o, h, wr⟩) d K = K (St.puts ⟨e, o, h, wr⟩ d .any false) [] := ae
@[simp] theorem GE (k bytes : Nat) (a x : Operand) : bp P d (.append k bytes a x) ⟨e, o, h, wr⟩ K = cI ⟨e, o, h, wr⟩ k bytes d (St.get ⟨e, o, h, wr⟩ a) (St.get ⟨e, o, h, wr⟩ x) K := ae
@[simp] theorem Dz (k bytes k1 : Nat) (es : List (List AV)) (nul : Option Bool) (c : Id) (x : AV) (hn : nul ≠ some true) : cI ⟨e, o, h, wr⟩ k bytes d (.sl k1 es nul (.own c)) x K = iZ ⟨e, o, h, wr⟩ k bytes d (.sl k1 es nul (.own c)) x K := by
 refine propext ⟨fun hh => ?_, .inl⟩
 rcases hh with hh | hh | hh
 ·exact hh
 ·obtain ⟨es2, hr, hne, hid, hm⟩ := hh
  rcases hm with hm | hm
  ·rcases hm.1 with h1 | ⟨_, _, h1⟩
   ·exact absurd h1 hn
   ·cases h1
  ·cases hm.2.2.1
 ·obtain ⟨hx, hm⟩ := hh
  rcases hm with ⟨_, h1, _⟩ | ⟨_, _, _, h1, _⟩
  ·exact absurd h1 hn
  ·cases h1
theorem cP {k bytes : Nat} {a x : AV} (hh : iZ ⟨e, o, h, wr⟩ k bytes d a x K) : cI ⟨e, o, h, wr⟩ k bytes d a x K := .inl hh
@[simp] theorem DT (a x : Operand) : bp P d (.appendS a x) ⟨e, o, h, wr⟩ K = gU ⟨e, o, h, wr⟩ d (St.get ⟨e, o, h, wr⟩ a) (St.get ⟨e, o, h, wr⟩ x) K := ae
@[simp] theorem LQ (x : Operand) : bp P d (.s2b x) ⟨e, o, h, wr⟩ K = yt ⟨e, o, h, wr⟩ d (St.get ⟨e, o, h, wr⟩ x) K := ae
@[simp] theorem Pf (b : ByteArray) : yt ⟨e, o, h, wr⟩ d (.v (.string b)) K = (b.size <= 140737488355328 /\ K (St.puts ⟨e, o, h, wr⟩ d (.sl 1 (af b.data.toList) none .no) false) []) := ae
@[simp] theorem EA (k bytes : Nat) (x : Operand) : bp P d (.appendN k bytes x) ⟨e, o, h, wr⟩ K = uI ⟨e, o, h, wr⟩ k bytes d (St.get ⟨e, o, h, wr⟩ (.const (.slice none 0 0))) (St.get ⟨e, o, h, wr⟩ x) K := ae
@[simp] theorem Kq (f : FuncId) (args : List Operand) : bp P d (.call f args) ⟨e, o, h, wr⟩ K = kO P f (args.map fun x => St.get ⟨e, o, h, wr⟩ x) ⟨e, o, h, wr⟩ d K := ae
@[simp] theorem IK (f : FuncId) (first cap args : List AV) : kY P (.fn (.func f) first cap) args ⟨e, o, h, wr⟩ d K = ((∀ c ∈ first ++ cap, c.idOf = none) /\ kO P f (first ++ args ++ cap) ⟨e, o, h, wr⟩ d K) := ae
@[simp] theorem Hk (k bytes n k1 k2 : Nat) (es es2 : List (List AV)) (nul nul2 : Option Bool) (room room2 : Room) : iZ ⟨e, o, h, wr⟩ k bytes (some n) (.sl k1 es nul room) (.sl k2 es2 nul2 room2) K = (lm k1 k es room /\ (k2 = k \/ es2 = []) /\ (es.length + es2.length) * bytes <= 140737488355328 /\ es.length + es2.length <= 140737488355328 /\ K ((St.stripR ⟨e, o, h, wr⟩ room).putO n (.sl k (es ++ es2) none (.own (nN room n)))) []) := ae
@[simp] theorem DX (n k1 : Nat) (es : List (List AV)) (nul : Option Bool) (room : Room) (t : ByteArray) : gU ⟨e, o, h, wr⟩ (some n) (.sl k1 es nul room) (.v (.string t)) K = (lm k1 1 es room /\ es.length + t.size <= 140737488355328 /\ K ((St.stripR ⟨e, o, h, wr⟩ room).putO n (.sl 1 (es ++ af t.data.toList) none (.own (nN room n)))) []) := ae
@[simp] theorem Ir (op : XOp) : gR P ⟨d, op, none⟩ ⟨e, o, h, wr⟩ ld K = bp P d op ⟨e, o, h, wr⟩ fun s' l => ff s' fun s' => K s' (l ++ ld) := ae
@[simp] theorem FZ (op : XOp) (g : Nat) (w : Bool) (hg : St.look ⟨e, o, h, wr⟩ g = .v (.bool w)) : gR P ⟨d, op, some (g, w)⟩ ⟨e, o, h, wr⟩ ld K = bp P d op ⟨e, o, h, wr⟩ fun s' l => ff s' fun s' => K s' (l ++ ld) := by
 rw [gR]; simp [eG, hg, cH]
@[simp] theorem DZ (op : XOp) (g : Nat) (w : Bool) (hg : St.look ⟨e, o, h, wr⟩ g = .v (.bool (!w))) : gR P ⟨d, op, some (g, w)⟩ ⟨e, o, h, wr⟩ ld K = ff (St.puts ⟨e, o, h, wr⟩ d (.v undef) false) fun s' => K s' ld := by
 rw [gR]; cases w <;> simp [eG, hg, cH]
@[simp] theorem Jz (op : XOp) : ej P ⟨d, op, none⟩ ⟨e, o, h, wr⟩ ld K = bp P d op ⟨e, o, h, wr⟩ fun s' l => fresh ld ⟨e, o, h, wr⟩ s' /\ ff s' fun s' => K s' (l ++ ld) := ae
@[simp] theorem I8 (op : XOp) (g : Nat) (w : Bool) (hg : St.look ⟨e, o, h, wr⟩ g = .v (.bool w)) : ej P ⟨d, op, some (g, w)⟩ ⟨e, o, h, wr⟩ ld K = bp P d op ⟨e, o, h, wr⟩ fun s' l => fresh ld ⟨e, o, h, wr⟩ s' /\ ff s' fun s' => K s' (l ++ ld) := by
 rw [ej]; simp [eG, hg, cH]
@[simp] theorem Fp (op : XOp) (g : Nat) (w : Bool) (hg : St.look ⟨e, o, h, wr⟩ g = .v (.bool (!w))) : ej P ⟨d, op, some (g, w)⟩ ⟨e, o, h, wr⟩ ld K = ff (St.puts ⟨e, o, h, wr⟩ d (.v undef) false) fun s' => K s' ld := by
 rw [ej]; cases w <;> simp [eG, hg, cH]
@[simp] theorem Fb (k : St -> Prop) : bR P .done ⟨e, o, h, wr⟩ ld k = k ⟨e, o, h, wr⟩ := ae
@[simp] theorem G6 (q : XOper) (t : XTree) (k : St -> Prop) : bR P (.take q t) ⟨e, o, h, wr⟩ ld k = gR P q ⟨e, o, h, wr⟩ ld fun s' ld' => bR P t s' ld' k := ae
@[simp] theorem EU (q : XOper) (t : XTree) (k : St -> Prop) : bR P (.only q t) ⟨e, o, h, wr⟩ ld k = ej P q ⟨e, o, h, wr⟩ ld fun s' ld' => bR P t s' ld' k := ae
@[simp] theorem Fk (op : XOp) (k : St -> Prop) : bR P (.last ⟨d, op, none⟩) ⟨e, o, h, wr⟩ ld k = bp P d op ⟨e, o, h, wr⟩ fun s' _ => ff s' k := ae
@[simp] theorem ID (q p : XOper) (t u : XTree) (k : St -> Prop) : bR P (.two q p t u) ⟨e, o, h, wr⟩ ld k = ((ej P q ⟨e, o, h, wr⟩ ld fun s' ld' => bR P t s' ld' k) /\ ej P p ⟨e, o, h, wr⟩ ld fun s' ld' => bR P u s' ld' k) := ae
@[simp] theorem Le (t : Nat) : St.look ⟨e, o, h, wr⟩ t = (match find o t with
  | some a => a
  | none => match find e t with
   | some a => a
   | none => .any) := ae
@[simp] theorem LB (t : Nat) : St.get ⟨e, o, h, wr⟩ (.tmp t) = St.look ⟨e, o, h, wr⟩ t := ae
@[simp] theorem H9 (v : Value) : St.get ⟨e, o, h, wr⟩ (.const v) = FL v := ae
@[simp] theorem Ki (f : FuncId) : St.get ⟨e, o, h, wr⟩ (.func f) = .fn (.func f) [] [] := ae
@[simp] theorem JH (t : Nat) : St.mine ⟨e, o, h, wr⟩ (.tmp t) = (find o t).isSome := ae
@[simp] theorem GF (v : Value) : St.mine ⟨e, o, h, wr⟩ (.const v) = false := ae
@[simp] theorem IC (a : AV) (w : Bool) : St.puts ⟨e, o, h, wr⟩ none a w = ⟨e, o, h, wr⟩ := ae
@[simp] theorem Gk (n : Nat) (a : AV) : St.puts ⟨e, o, h, wr⟩ (some n) a false = ⟨(n, a) :: e, drop n o, h, wr⟩ := ae
@[simp] theorem Ix (n : Nat) (a : AV) : St.puts ⟨e, o, h, wr⟩ (some n) a true = ⟨e, (n, a) :: drop n o, h, wr⟩ := ae
@[simp] theorem Mu (n : Nat) (a : AV) : St.put ⟨e, o, h, wr⟩ n a = ⟨(n, a) :: e, drop n o, h, wr⟩ := ae
@[simp] theorem K8 (n : Nat) (a : AV) : St.putO ⟨e, o, h, wr⟩ n a = ⟨e, (n, a) :: drop n o, h, wr⟩ := ae
@[simp] theorem L4 (p : Id -> Bool) : St.kill ⟨e, o, h, wr⟩ p = ⟨e, fp p o, h, wr⟩ := ae
@[simp] theorem Jm (t : Nat) : find [] t = none := ae
@[simp] theorem Io (t : Nat) (a : AV) (r : List (Nat × AV)) : find ((t, a) :: r) t = some a := by simp [find]
@[simp] theorem F7 (k t : Nat) (a : AV) (r : List (Nat × AV)) (hk : k ≠ t) : find ((k, a) :: r) t = find r t := by simp [find, hk]
@[simp] theorem drop_nil (t : Nat) : drop t [] = [] := ae
@[simp] theorem Je (t : Nat) (a : AV) (r : List (Nat × AV)) : drop t ((t, a) :: r) = drop t r := by simp [drop]
@[simp] theorem E8 (k t : Nat) (a : AV) (r : List (Nat × AV)) (hk : k ≠ t) : drop t ((k, a) :: r) = (k, a) :: drop t r := by simp [drop, hk]
end
section
variable {c : Id} {x : Value} {i o k : Nat} {cs : List AV} {es : List (List AV)} {nul : Option Bool} {room : Room} {f : Fn} {a b : List AV}
@[simp] theorem Ln : (AV.v x).unown = .v x := ae
@[simp] theorem Ih : (AV.box i o).unown = .box i o := ae
@[simp] theorem I6 {i off k n : Nat} : (AV.bsl i off k n).unown = .bsl i off k n := ae
@[simp] theorem JA : (AV.sl k es nul .no).unown = .sl k es nul .no := ae
@[simp] theorem Ea : (AV.sl k es nul .exact).unown = .sl k es nul .exact := ae
@[simp] theorem II : (AV.sl k es nul (.own c)).unown = .sl k es nul .no := ae
@[simp] theorem Ic : (AV.agg cs).unown = .agg cs := ae
@[simp] theorem P5 : (AV.v x).idOf = none := ae
@[simp] theorem O8 : (AV.box i o).idOf = none := ae
@[simp] theorem Py {i off k n : Nat} : (AV.bsl i off k n).idOf = none := ae
@[simp] theorem PE : (AV.sl k es nul .no).idOf = none := ae
@[simp] theorem KP : (AV.sl k es nul .exact).idOf = none := ae
@[simp] theorem O1 : (AV.sl k es nul (.own c)).idOf = some c := ae
@[simp] theorem PN : (AV.fn f a b).idOf = none := ae
@[simp] theorem NH : (AV.agg cs).idOf = none := ae
@[simp] theorem Ol : (AV.tup cs).idOf = none := ae
@[simp] theorem PI : (AV.v x).one = x.oneCell' := ae
@[simp] theorem KZ : (AV.box i o).one = true := ae
@[simp] theorem H8 : (AV.agg cs).cells = some cs := ae
theorem yK {a : AV} (h : a.one = true) : a.cells = some [a] := by
 cases a with
 | agg cs => cases h
 | _ => simp [AV.cells, h]
@[simp] theorem Ld (h : x.oneCell' = true) : (AV.v x).cells = some [.v x] := yK h
@[simp] theorem Iw : (AV.box i o).cells = some [.box i o] := ae
@[simp] theorem Ik {i off k n : Nat} : (AV.bsl i off k n).cells = some [.bsl i off k n] := ae
@[simp] theorem Jk : (AV.sl k es nul room).cells = some [.sl k es nul room] := ae
@[simp] theorem KT (k : IntKind) (n : Int) : (Value.int k n).oneCell' = true := ae
@[simp] theorem Kw (b : Bool) : (Value.bool b).oneCell' = true := ae
@[simp] theorem KY (s : ByteArray) : (Value.string s).oneCell' = true := ae
@[simp] theorem Em {d : Id} : (AV.sl k es nul (.own c)).relabel d = .sl k es nul (.own d) := ae
@[simp] theorem GA (p : Id -> Bool) : (AV.sl k es nul (.own c)).killed p = if p c then .sl k es nul .no else .sl k es nul (.own c) := ae
@[simp] theorem IJ (p : Id -> Bool) : (AV.sl k es nul .no).killed p = .sl k es nul .no := ae
@[simp] theorem FM {m : Nat} {a : AV} (h : a.idOf = none) : ky m a = a := by
 cases a with
 | sl k es nul room => cases room <;> first | rfl | cases h
 | _ => rfl
@[simp] theorem EF {m n : Nat} : ky m (.sl k es nul (.own (.slot n))) = .sl k es nul (.own .res) := ae
@[simp] theorem IY (a : AV) : LeqV c a a := j7 c a
@[simp] theorem IG (a : AV) : weak a a := j6 a
@[simp] theorem Lx (k' : Nat) (es' : List (List AV)) (nul' : Option Bool) (room' : Room) : LeqV c (.sl k es nul room) (.sl k' es' nul' room') = (cF es es' /\ (k = k' \/ (es = [] /\ room = .exact)) /\ gT nul nul' /\ (lz c room room' \/ (nul = some true /\ newRoom c room'))) := ae
@[simp] theorem NQ (y : Value) (a : AV) : LeqV c a (.v y) = weak a (.v y) := ae
@[simp] theorem JC (a : AV) : LeqV c a (.box i o) = weak a (.box i o) := ae
@[simp] theorem JE {i off k n : Nat} (a : AV) : LeqV c a (.bsl i off k n) = weak a (.bsl i off k n) := ae
@[simp] theorem Kp (a : AV) : LeqV c a (.agg cs) = weak a (.agg cs) := ae
@[simp] theorem Ju (a : AV) : LeqV c a (.tup cs) = weak a (.tup cs) := ae
@[simp] theorem xQ (n : Nat) {a : AV} (h : a.idOf = none) : pv n a a := by
 unfold pv
 cases a with
 | sl k es nul room =>
  refine ⟨fk _, .inl rfl, iO _, ?_⟩
  cases room <;> first | trivial | cases h
 | any => trivial
 | _ => exact j6 _
@[simp] theorem K3 (n k' : Nat) (es' : List (List AV)) (nul' : Option Bool) (room' : Room) : pv n (.sl k es nul room) (.sl k' es' nul' room') = (cF es es' /\ (k = k' \/ (es = [] /\ room = .exact)) /\ gT nul nul' /\ nX n room room') := ae
@[simp] theorem JN (n : Nat) (a : AV) : pv n a (.agg cs) = weak a (.agg cs) := ae
@[simp] theorem ya {a b : AV} (h : b.idOf = none) : hand a b = b := by
 cases b with
 | sl k es nul room => cases room <;> first | rfl | cases h
 | _ => rfl
@[simp] theorem Kv (k' : Nat) (es' : List (List AV)) (nul' : Option Bool) (d : Id) : hand (.sl k es nul (.own c)) (.sl k' es' nul' (.own d)) = .sl k' es' nul' (.own c) := ae
@[simp] theorem FS (k' : Nat) (es' : List (List AV)) (nul' : Option Bool) (d : Id) : hand (.sl k es nul .exact) (.sl k' es' nul' (.own d)) = .sl k' es' nul' (.own .res) := ae
end
@[simp] theorem GH (x : Value) (b : AV) : mj true (.v x) b = .v x := by
 unfold mj
 split <;> simp_all [AV.unown]
@[simp] theorem Ev (a : AV) (y : Value) : mj false a (.v y) = .v y := by
 unfold mj
 split <;> simp_all [AV.unown]
@[simp] theorem Ha (t x y : Bool) : mj t (.v (.bool x)) (.v (.bool y)) = .v (.bool (bif t then x else y)) := ae
@[simp] theorem FV (h : List (List AV)) (i o : Nat) : fq h (.box i o) = (match h[i]? with
  | some cs => match cs[o]? with
   | some a => ⟨True, a, a.idOf.isSome, [i]⟩
   | none => .bad
  | none => .bad) := rfl
@[simp] theorem I2 (h : List (List AV)) (c : AV) (r : List AV) : fq h (.ro (c :: r)) = ⟨True, c.unown, false, []⟩ := ae
@[simp] theorem E2 (h : List (List AV)) (n i o : Nat) : eK h n (.box i o) = (match h[i]? with
  | some cs => ⟨o + n <= cs.length, .agg (((cs.drop o).take n).map AV.unown), false, [i]⟩
  | none => .bad) := rfl
@[simp] theorem Iv (h : List (List AV)) {n : Nat} {cs : List AV} (hl : cs.length = n) (hu : cs.map AV.unown = cs) : eK h n (.ro cs) = ⟨True, .agg cs, false, []⟩ := by
 unfold eK
 subst hl
 simp [hu]
@[simp] theorem FA (n : Option Bool) : gT n none := by simp [gT]
@[simp] theorem Ed (p : Id -> Bool) : fp p [] = [] := ae
@[simp] theorem DD (p : Id -> Bool) (k : Nat) (a : AV) (r : List (Nat × AV)) : fp p ((k, a) :: r) = (k, a.killed p) :: fp p r := ae
@[simp] theorem Pa (n : Nat) (x : Value) : (AV.v x).lt n = True := ae
@[simp] theorem Kx (n : Nat) : AV.any.lt n = True := ae
@[simp] theorem JQ (n i o : Nat) : (AV.box i o).lt n = (i < n) := ae
@[simp] theorem J2 (n i o k m : Nat) : (AV.bsl i o k m).lt n = (i < n) := ae
@[simp] theorem Ky (n i : Nat) (r : Loop) (c : Code) (a : List AV) : (AV.yld i r c a).lt n = (i < n /\ dP n a) := ae
@[simp] theorem LZ (n : Nat) (cs : List AV) : (AV.ro cs).lt n = dP n cs := ae
@[simp] theorem L2 (n k : Nat) (es : List (List AV)) (nul : Option Bool) (room : Room) : (AV.sl k es nul room).lt n = aw n es := ae
@[simp] theorem L0 (n : Nat) (f : Fn) (a b : List AV) : (AV.fn f a b).lt n = (dP n a /\ dP n b) := ae
@[simp] theorem KK (n : Nat) (cs : List AV) : (AV.agg cs).lt n = dP n cs := ae
@[simp] theorem J5 (n : Nat) (cs : List AV) : (AV.tup cs).lt n = dP n cs := ae
@[simp] theorem IL (n : Nat) : dP n [] = True := ae
@[simp] theorem FJ (n : Nat) (a : AV) (r : List AV) : dP n (a :: r) = (a.lt n /\ dP n r) := ae
@[simp] theorem HV (n : Nat) : aw n [] = True := ae
@[simp] theorem Et (n : Nat) (a : List AV) (r : List (List AV)) : aw n (a :: r) = (dP n a /\ aw n r) := ae
@[simp] theorem I3 {α : Type} (cs : List α) (o : Nat) : lay cs o [] = cs := ae
@[simp] theorem GV {α : Type} (cs : List α) (o : Nat) (a : α) (r : List α) : lay cs o (a :: r) = lay (cs.set o a) (o + 1) r := ae
@[simp] theorem Eh (cs : List AV) : gF cs [] = some cs := ae
@[simp] theorem DM (cs : List AV) (off size : Nat) (a : AV) (r : List (Nat × Nat × AV)) : gF cs ((off, size, a) :: r) = (match a.cells with | some l => if l.length = size /\ off + size <= cs.length then gF (lay cs off (l.map AV.unown)) r else none | none => none) := ae
@[simp] theorem Ch (k : Nat) (l : List AV) : cB k 0 l = [] := ae
@[simp] theorem sw (k n : Nat) (l : List AV) : cB k (n + 1) l = l.take k :: cB k n (l.drop k) := ae
@[simp] theorem Gs (k : Nat) (z : List AV) : wD k z 0 = [] := ae
@[simp] theorem Hv (k n : Nat) (z : List AV) : wD k z (n + 1) = z ++ wD k z n := ae
def Bx (x : Int) (r : List Int) : Int := r.foldl (fun m y => if y > m then y else m) x
@[simp] theorem Ez (x : Int) (r : List Int) : yW (x :: r) = some (Bx x r) := ae
@[simp] theorem BV {n : Int} : ∀ (x : Int) (r : List Int), Bx x r <= n ↔ x <= n /\ ∀ y ∈ r, y <= n
 | x, [] => by simp [Bx]
 | x, y :: r => by
  have ih := BV (n := n) (if y > x then y else x) r
  have e : Bx x (y :: r) = Bx (if y > x then y else x) r := rfl
  rw [e, ih, List.forall_mem_cons]
  split
  ·exact ⟨fun h => ⟨by omega, h⟩, fun h => h.2⟩
  ·exact ⟨fun h => ⟨h.1, by omega, h.2⟩, fun h => ⟨h.1, h.2.2⟩⟩
@[simp] theorem FH  : mi [] [] [] = some true := ae
@[simp] theorem EC (t : Nat) (ts : List Nat) (a b : AV) (r q : List AV) : mi (t :: ts) (a :: r) (b :: q) = (match Jl t a b, mi ts r q with | some x, some y => some (x && y) | _, _ => none) := ae
@[simp] theorem D8 (s : St) : qq s [] = True := ae
@[simp] theorem B0 (s : St) (x : XOp) (r : List XOp) : qq s (x :: r) = ((cE s x).ok /\ qq s r) := ae
@[simp] theorem CZ (own : Bool) (i : Nat) : dh own i [] = [] := ae
@[simp] theorem BJ (own : Bool) (i : Nat) (a : AV) (r : List AV) : dh own i (a :: r) = (bif a.idOf.isSome == own then (i, a) :: dh own (i + 1) r else dh own (i + 1) r) := ae
@[simp] theorem Ji (k k' : Nat) (es es' : List (List AV)) (nul nul' : Option Bool) (room room' : Room) : weak (.sl k es nul room) (.sl k' es' nul' room') = ((k = k' \/ (es = [] /\ room' = .no)) /\ cF es es' /\ gT nul nul' /\ (room' = .no \/ room' = room)) := ae
@[simp] theorem GR (cs ds : List AV) : weak (.agg cs) (.agg ds) = cV cs ds := ae
@[simp] theorem HH (cs ds : List AV) : weak (.tup cs) (.tup ds) = cV cs ds := ae
@[simp] theorem JF (x y : Value) : weak (.v x) (.v y) = (x = y) := ae
@[simp] theorem IF (k i n : Nat) (o : Bool) : (AV.itr i none n o).lt k = (i < k /\ True) := ae
@[simp] theorem Im (k i j n : Nat) (o : Bool) : (AV.itr i (some j) n o).lt k = (i < k /\ j < k) := ae
@[simp] theorem L1 (k i n : Nat) (o : Bool) : (AV.mp i n o).lt k = (i < k) := ae
@[simp] theorem Cx (a b : AV) (r q : List AV) : cV (a :: r) (b :: q) = (weak a b /\ cV r q) := ae
@[simp] theorem BM (a b : List AV) (r q : List (List AV)) : cF (a :: r) (b :: q) = (cV a b /\ cF r q) := ae
@[simp] theorem Eo (i j : Nat) (a b : AV) (r q : List AV) : dC i j (a :: r) (b :: q) = (LeqV (.cell i j) a b /\ dC i (j + 1) r q) := ae
@[simp] theorem Fv (s : St) (n : Nat) : vo s n [] = True := ae
@[simp] theorem DV (s : St) (n : Nat) (p : Nat × AV) (r : List (Nat × AV)) : vo s n (p :: r) = ((LeqV (.slot p.1) (s.look p.1) p.2 /\ p.2.lt n) /\ vo s n r) := ae
@[simp] theorem GT (s : St) (n : Nat) : vq s n [] = True := ae
@[simp] theorem D2 (s : St) (n : Nat) (p : Nat × AV) (r : List (Nat × AV)) : vq s n (p :: r) = ((LeqV (.slot p.1) (s.look p.1) p.2 /\ p.2.idOf = none /\ p.2.lt n) /\ vq s n r) := ae
@[simp] theorem Hg (i : Nat) : gS i [] [] = True := ae
@[simp] theorem Ew (i : Nat) (a b : AV) (r q : List AV) : gS i (a :: r) (b :: q) = (pv i a b /\ gS (i + 1) r q) := ae
@[simp] theorem D0  : cC [] [] = [] := ae
@[simp] theorem DH (a b : AV) (r q : List AV) : cC (a :: r) (b :: q) = hand a b :: cC r q := ae
@[simp] theorem DQ  : bD [] = [] := ae
@[simp] theorem Cu (a : AV) (r : List AV) : bD (a :: r) = (match a.idOf with | some c => if c.isCell then bD r else c :: bD r | none => bD r) := ae
attribute [simp] St.called St.calledU St.assigned St.stored St.storedAt St.strip St.stripR lm
attribute [simp] FL dI
attribute [simp] jq fz cutAt oO gN u0 A1 zf vJ vU lh pH Jl wc vF ed Ht ru rD nr mn ln lB rf fX qc jj wx x0 cE
attribute [simp] GS wQ mI enter lz nX br Id.isCell Id.isNew ve nN newRoom St.sorted St.calm pI yC qk
attribute [simp] ag cu fk fY iO lA bF iy fresh Val.of Val.bad
section
variable {i : Nat} {r : Loop} {c : Code} {l : List AV}
@[simp] theorem I5 {im : Option Nat} {n : Nat} {o : Bool} : (AV.itr i im n o).unown = .itr i im n o := rfl
@[simp] theorem Mk {im : Option Nat} {n : Nat} {o : Bool} : (AV.itr i im n o).idOf = none := rfl
@[simp] theorem LI {im : Option Nat} {n : Nat} {o : Bool} : (AV.itr i im n o).one = true := rfl
@[simp] theorem KC {d : Id} {im : Option Nat} {n : Nat} {o : Bool} (a : AV) : LeqV d a (.itr i im n o) = weak a (.itr i im n o) := rfl
@[simp] theorem JG (k : Nat) {im : Option Nat} {n : Nat} {o : Bool} (a : AV) : pv k a (.itr i im n o) = weak a (.itr i im n o) := rfl
@[simp] theorem KD {n : Nat} {o : Bool} : (AV.mp i n o).unown = .mp i n o := rfl
@[simp] theorem PF {n : Nat} {o : Bool} : (AV.mp i n o).idOf = none := rfl
@[simp] theorem MM {n : Nat} {o : Bool} : (AV.mp i n o).one = true := rfl
@[simp] theorem KI {n : Nat} {o : Bool} : (AV.mp i n o).cells = some [.mp i n o] := rfl
@[simp] theorem K7 {d : Id} {n : Nat} {o : Bool} (a : AV) : LeqV d a (.mp i n o) = weak a (.mp i n o) := rfl
@[simp] theorem Lm (k : Nat) {n : Nat} {o : Bool} (a : AV) : pv k a (.mp i n o) = weak a (.mp i n o) := rfl
@[simp] theorem It : (AV.yld i r c l).unown = .yld i r c l := rfl
@[simp] theorem Mo : (AV.yld i r c l).idOf = none := rfl
@[simp] theorem Kf {d : Id} (a : AV) : LeqV d a (.yld i r c l) = weak a (.yld i r c l) := rfl
@[simp] theorem JX (n : Nat) (a : AV) : pv n a (.yld i r c l) = weak a (.yld i r c l) := rfl
theorem ac {L : Nat} {H : List (List AV)} (h : H.length = L) : jo 0 (H.take L) H := by
 rw [<- h, List.take_length]; exact ag _ _
theorem sub_self (wr : List Nat) (n : Nat) : (∀ i, i ∈ wr -> i < n -> i ∈ wr) = True := eq_true fun _ h _ => h
end
section
variable {P : Program} {m : Frm}
theorem bO {α : Type} {o : Option α} {k k' : α -> Prop} (hk : ∀ a, k a -> k' a) (h : bj o k) : bj o k' := by
 cases o with
 | none => exact h
 | some a => exact hk a h
theorem vB {s : St} {d : Option Nat} {v : AV} {K K' : St -> Prop} (hK : ∀ s, K s -> K' s) (h : ra s d v K) : ra s d v K' := by
 unfold ra at h ⊢
 split at h
 ·exact hK _ h
 ·exact bO (fun q h => bO (fun p h => ⟨h.1, h.2.1, h.2.2.1, fun hh => hK _ (h.2.2.2.1 hh), fun a ha hn => hK _ (h.2.2.2.2 a ha hn)⟩) h) h
 ·exact h.elim
theorem o7 {f : FuncId} {args : List AV} {s : St} {d : Option Nat} {K K' : St -> List Nat -> Prop} (hK : ∀ s l, K s l -> K' s l) (h : kO P f args s d K) : kO P f args s d K' := by
 rcases h with h | h
 ·obtain ⟨bs, r, h', wr, h1, h2, h3, h4⟩ := h
  exact .inl ⟨bs, r, h', wr, h1, h2, h3, hK _ _ h4⟩
 ·obtain ⟨bs, r, h', wr, hh, h0, h1, h2, h3, h4⟩ := h
  exact .inr ⟨bs, r, h', wr, hh, h0, h1, h2, h3, hK _ _ h4⟩
theorem fg {d : Option Nat} {op : XOp} {s : St} {K K' : St -> List Nat -> Prop} (hK : ∀ s l, K s l -> K' s l) (h : bp P d op s K) : bp P d op s K' := by
 cases op with
 | assign x => cases d with
  | none => exact h
  | some d => exact hK _ _ h
 | alloc z => exact hK _ _ h
 | box x => exact bO (fun _ h => hK _ _ h) h
 | buildSlice k len z parts => exact bO (fun _ h => hK _ _ h) h
 | store n p x => exact bO (fun _ h => hK _ _ h) h
 | append k b a x => exact kz hK h
 | appendN k b x =>
  rcases h with h | h
  ·exact .inl (kz hK h)
  ·refine .inr ?_
   unfold iF at h ⊢
   split at h
   ·exact ⟨h.1, h.2.1, h.2.2.1, h.2.2.2.1, h.2.2.2.2.1, hK _ _ h.2.2.2.2.2⟩
   ·exact h.elim
 | s2b x =>
  unfold bp yt at h ⊢
  dsimp only at h ⊢
  split at h
  ·exact ⟨h.1, hK _ _ h.2⟩
  ·exact h.elim
 | appendS a x =>
  unfold bp gU at h ⊢
  dsimp only at h ⊢
  split at h
  ·exact ⟨h.1, h.2.1, hK _ _ h.2.2⟩
  ·exact h.elim
 | makeMap n one => exact hK _ _ h
 | emptyS k => exact hK _ _ h
 | clearS kd z x =>
  unfold bp pF at h ⊢
  dsimp only at h ⊢
  split at h
  ·exact ⟨h.1, hK _ _ h.2⟩
  ·exact ⟨h.1, bO (fun _ h => ⟨h.1, hK _ _ h.2⟩) h.2⟩
  ·exact h.elim
 | makeS k bytes c =>
  unfold bp sE at h ⊢
  dsimp only at h ⊢
  split at h
  ·exact ⟨h.1, h.2.1, h.2.2.1, hK _ _ h.2.2.2⟩
  ·exact h.elim
 | makeB k bytes z c =>
  unfold bp sU at h ⊢
  dsimp only at h ⊢
  split at h
  ·exact ⟨h.1, h.2.1, h.2.2.1, hK _ _ h.2.2.2⟩
  ·exact h.elim
 | mapUpd ks n one m k x =>
  unfold bp iV at h ⊢
  dsimp only at h ⊢
  split at h
  ·exact ⟨h.1, h.2.1, bO (fun _ h => ⟨h.1, bO (fun _ h => hK _ _ h) h.2⟩) h.2.2⟩
  ·exact h.elim
 | mapDel ks n one m k =>
  unfold bp lO at h ⊢
  dsimp only at h ⊢
  split at h
  ·exact ⟨h.1, hK _ _ h.2⟩
  ·exact ⟨h.1, h.2.1, bO (fun _ h => ⟨h.1, hK _ _ h.2⟩) h.2.2⟩
  ·exact h.elim
 | rangeM n one x =>
  unfold bp ms at h ⊢
  dsimp only at h ⊢
  split at h
  ·exact hK _ _ h
  ·exact ⟨h.1, bO (fun _ h => hK _ _ h) h.2⟩
  ·exact h.elim
 | call f args => exact o7 hK h
 | callv x args =>
  unfold bp kY at h ⊢
  dsimp only at h ⊢
  split at h
  ·exact ⟨h.1, o7 hK h.2⟩
  ·exact h.elim
 | _ => exact ⟨h.1, hK _ _ h.2⟩
theorem xZ {d : Option Nat} {op : XOp} {s : St} {K K' : St -> List Nat -> Prop} (hK : ∀ s l, K s l -> K' s l) (h : bL P d op s K) : bL P d op s K' := by
 cases op with
 | callv x args =>
  unfold bL fI at h ⊢
  dsimp only at h ⊢
  split at h
  ·rename_i i r c slots hg
   obtain ⟨bs, res, h', wr, h1, h2, h3, h4⟩ := h
   exact ⟨bs, res, h', wr, h1, h2, h3, hK _ _ h4⟩
  ·exact fg (op := .callv x args) hK h
 | _ => rw [lb (fun y args e => by cases e)] at h ⊢; exact fg hK h
theorem de {α : Option Bool} {A A' B B' : Prop} (ha : A -> A') (hb : B -> B') (h : cH α A B) : cH α A' B' := by
 unfold cH at h ⊢
 split at h
 ·exact ha h
 ·exact hb h
 ·exact h
theorem j9 : ∀ {xs : List XOper} {s : St} {ld : List Nat} {K K' : St -> List Nat -> Prop}, (∀ s l, K s l -> K' s l) -> gj P xs s ld K -> gj P xs s ld K'
 | [], s, ld, K, K', hK, h => hK _ _ h
 | o :: r, s, ld, K, K', hK, h => by
  unfold gj at h ⊢
  exact de (fun h => xZ (fun s l h => j9 hK h) h) (fun h => j9 hK h) h
theorem bH : ∀ {t : XTree} {s : St} {ld : List Nat} {K K' : St -> Prop}, (∀ s, K s -> K' s) -> bR P t s ld K -> bR P t s ld K'
 | .done, s, ld, K, K', hK, h => hK _ h
 | .take o t, s, ld, K, K', hK, h => by
  unfold bR gR at h ⊢
  exact de (fun h => fg (fun s l h => bH hK h) h) (fun h => bH hK h) h
 | .only o t, s, ld, K, K', hK, h => by
  unfold bR ej at h ⊢
  exact de (fun h => fg (fun s l h => ⟨h.1, bH hK h.2⟩) h) (fun h => bH hK h) h
 | .last o, s, ld, K, K', hK, h => by
  unfold bR at h ⊢
  exact de (fun h => fg (fun s l h => hK _ h) h) (fun h => hK _ h) h
 | .two o p t u, s, ld, K, K', hK, h => by
  unfold bR ej at h ⊢
  exact ⟨de (fun h => fg (fun s l h => ⟨h.1, bH hK h.2⟩) h) (fun h => bH hK h) h.1, de (fun h => fg (fun s l h => ⟨h.1, bH hK h.2⟩) h) (fun h => bH hK h) h.2⟩
 | .alt o t u, s, ld, K, K', hK, h => by
  unfold bR ej at h ⊢
  exact ⟨de (fun h => fg (fun s l h => ⟨h.1, bH hK h.2⟩) h) (fun h => bH hK h) h.1, bH hK h.2⟩
theorem gV {k k' : St -> Prop} {K K' : XExit -> St -> Prop} (hk : ∀ s, k s -> k' s) (hK : ∀ e s, K e s -> K' e s) : ∀ e s, XExit.then k K e s -> XExit.then k' K' e s
 | .normal, s, h => hk s h
 | .exit _, s, h => hK _ s h
 | .ret, s, h => hK _ s h
theorem df : ∀ {c : XCode} {s : St} {K K' : XExit -> St -> Prop}, (∀ e s, K e s -> K' e s) -> dU P m c s K -> dU P m c s K'
 | .skip, s, K, K', hK, h => hK _ _ h
 | .ops xs, s, K, K', hK, h => j9 (fun s _ h => hK _ s h) h
 | .draws t, s, K, K', hK, h => bH (fun s h => hK _ s h) h
 | .seq a b, s, K, K', hK, h => df (c := a) (gV (fun s h => df (c := b) hK h) hK) h
 | .cond x a b, s, K, K', hK, h => by
  unfold dU rP at h ⊢
  split at h
  ·exact ⟨fun e => df hK (h.1 e), fun e => df hK (h.2 e)⟩
  ·exact h.elim
 | .block id a, s, K, K', hK, h => by
  refine df (c := a) (fun e s h => ?_) h
  cases e with
  | normal => exact hK _ _ h
  | ret => exact hK _ _ h
  | exit i =>
   unfold XExit.inBlock at h ⊢
   dsimp only at h ⊢
   split at h
   ·rename_i e; rw [if_pos e]; exact hK _ _ h
   ·rename_i e; rw [if_neg e]; exact hK _ _ h
 | .loop a, s, K, K', hK, h => by
  obtain ⟨D, inv, μ, h1, h2⟩ := h
  exact ⟨D, inv, μ, h1, fun d => df (c := a) (gV (fun s h => h) hK) (h2 d)⟩
 | .range x ps a b, s, K, K', hK, h => by
  obtain ⟨h1, h2, g, cap, n, xs, all, R, e, H, wr, h3, E, q1, q2, q3, q4, q5, q6, q7, q8, q9, q10, q11⟩ := h
  exact ⟨h1, h2, g, cap, n, xs, all, R, e, H, wr, h3, E, q1, q2, q3, q4, q5, q6, q7, q8, q9, fun ha => hK _ _ (q10 ha), fun ha => ⟨(q11 ha).1, hK _ _ (q11 ha).2⟩⟩
 | .exit id, s, K, K', hK, h => hK _ _ h
 | .ret, s, K, K', hK, h => hK _ _ h
 | .cut a, s, K, K', hK, h => by
  obtain ⟨s2, h1, h2⟩ := h
  exact ⟨s2, h1, df (c := a) hK h2⟩
 | .mark a, s, K, K', hK, h => df (c := a) hK h
 | .nexts d x xs, s, K, K', hK, h => vB (fun s h => j9 (fun s _ h => hK _ s h) h) h
 | .sortr t d e g, s, K, K', hK, h => by
  obtain ⟨us, us', k, nul, room, h1, h2, h3, h4, h5, h6⟩ := h
  exact ⟨us, us', k, nul, room, h1, h2, h3, h4, h5, hK _ _ h6⟩
theorem aU {a b : XCode} {s : St} {K : XExit -> St -> Prop} (s2 : St) (ha : dU P m a s (XExit.then (fun s' => Leq m.h.length s' s2) K)) (hb : dU P m b s2 K) : dU P m (.mark (.seq a (.cut b))) s K :=
 df (c := a) (gV (fun _ h => ⟨s2, .inl h, hb⟩) fun _ _ h => h) ha
theorem qj {a b : XCode} {s : St} {K : XExit -> St -> Prop} (i : Nat) (cs : List AV) (s2 : St) (hi : m.h.length <= i) (hne : frzOk cs) (ha : dU P m a s (XExit.then (fun s' => s'.heap[i]? = some cs /\ Leq m.h.length (s'.frz i cs) s2) K)) (hb : dU P m b s2 K) : dU P m (.mark (.seq a (.cut b))) s K :=
 df (c := a) (gV (fun _ h => ⟨s2, .inr ⟨i, cs, hi, h.1, hne, h.2⟩, hb⟩) fun _ _ h => h) ha
theorem KQ {a : XCode} {s : St} {K : XExit -> St -> Prop} (h : dU P m a s K) : dU P m (.mark a) s K := h
end
def ai {α : Type} (f : α -> List AV) (l : List α) : List (List AV) := l.map f
section
variable {α : Type} (f : α -> List AV)
@[simp] theorem LL : ai f [] = [] := rfl
@[simp] theorem l9 (x : α) (l : List α) : ai f (x :: l) = f x :: ai f l := rfl
@[simp] theorem vm (l m : List α) : ai f (l ++ m) = ai f l ++ ai f m := by simp [ai]
@[simp] theorem FN (l : List α) : (ai f l).length = l.length := by simp [ai]
@[simp] theorem Er (l : List α) (j : Nat) (hj : j < (ai f l).length) : (ai f l)[j] = f (l[j]'(by simpa using hj)) := by simp [ai]
@[simp] theorem Gx (l : List α) : ai f l = [] ↔ l = [] := by simp [ai]
theorem A2 (l : List α) (n : Nat) : (ai f l).take n = ai f (l.take n) := by simp [ai]
theorem zr (l : List α) (n : Nat) : (ai f l).drop n = ai f (l.drop n) := by simp [ai]
theorem cp (n : Nat) (h : ∀ x, dP n (f x)) : ∀ l : List α, aw n (ai f l)
 | [] => trivial
 | x :: l => ⟨h x, cp n h l⟩
theorem jZ {l : List α} {j : Nat} (hj : j < l.length) : l.take (j + 1) = l.take j ++ [l[j]] := by
 rw [List.take_add_one, Q1 hj]; rfl
end
@[simp] theorem EH : af [] = [] := rfl
@[simp] theorem D1 (x : UInt8) (l : List UInt8) : af (x :: l) = [.v (.int .u8 (x.toNat : Int))] :: af l := rfl
@[simp] theorem aT (l m : List UInt8) : af (l ++ m) = af l ++ af m := by simp [af]
@[simp] theorem qG (l : List UInt8) : (af l).length = l.length := by simp [af]
@[simp] theorem BF (l : List UInt8) : af l = [] ↔ l = [] := by simp [af]
theorem uN (l : List UInt8) (n : Nat) : (af l).take n = af (l.take n) := by simp [af]
theorem s7 (l : List UInt8) (n : Nat) : (af l).drop n = af (l.drop n) := by simp [af]
def ao (n : Int) : List AV := [.v (.int .i64 n)]
def fS (s : List UInt8) : List AV := [.v (.string (ah s))]
@[simp] theorem mD (xs : List UInt8) : (ah xs).data.toList = xs := by simp [ah]
@[simp] theorem KW (xs : List UInt8) : (ah xs).size = xs.length := dr xs
@[simp] theorem I4 (xs : List UInt8) : (ah xs).toList = xs := aX xs
@[simp] theorem KO (xs ys : List UInt8) : ah xs ++ ah ys = ah (xs ++ ys) := by
 apply ByteArray.ext; simp [ah]
@[simp] theorem Iz (n : Nat) (l : List Int) : aw n (ai ao l) := cp ao n (fun _ => ⟨trivial, trivial⟩) l
@[simp] theorem H5 (n : Nat) (l : List (List UInt8)) : aw n (ai fS l) := cp fS n (fun _ => ⟨trivial, trivial⟩) l
theorem aN {n : Nat} {h : List (List AV)} (hh : aw n h) {i : Nat} {cs : List AV} (hc : dP n cs) : aw n (h.set i cs) :=
 lK fun j e he => by
  rw [List.getElem?_set] at he
  split at he
  ·split at he
   ·injection he with he; subst he; exact hc
   ·cases he
  ·exact ib hh j e he
theorem pw {h : List (List AV)} {i : Nat} {a b : List AV} (hab : dC i 0 a b) : jo 0 (h.set i a) (h.set i b) := by
 have key : ∀ (h : List (List AV)) (k i : Nat), dC (k + i) 0 a b -> jo k (h.set i a) (h.set i b) := fun h => by
  induction h with
  | nil => intro k i _; trivial
  | cons c r ih =>
   intro k i hh
   cases i with
   | zero => exact ⟨.inr hh, ag r _⟩
   | succ i => exact ⟨.inl rfl, ih (k + 1) i (by rw [show k + 1 + i = k + (i + 1) by omega]; exact hh)⟩
 exact key h 0 i (by rw [Nat.zero_add]; exact hab)
@[simp] theorem Dv (h : List (List AV)) (i : Nat) (hi : i < h.length) (a b : List AV) : jo 0 (h.set i a) (h.set i b) ↔ a = b \/ dC i 0 a b := by
 constructor
 ·intro hh
  obtain ⟨_, h2⟩ := ql hh
  right
  obtain ⟨cs, h3, h4, h5⟩ := h2 i b (by rw [Ra hi])
  rw [Ra hi] at h3
  injection h3 with h3
  subst h3
  have key : ∀ (a b : List AV) (j : Nat), a.length = b.length -> (∀ (k : Nat) (y : AV), b[k]? = some y -> ∃ x, a[k]? = some x /\ LeqV (.cell i (j + k)) x y) -> dC i j a b := fun a => by
   induction a with
   | nil => intro b j hl _; cases b with
    | nil => trivial
    | cons _ _ => simp at hl
   | cons x r ih =>
    intro b j hl hh
    cases b with
    | nil => simp at hl
    | cons y q =>
     refine ⟨?_, ih q (j + 1) (by simpa using hl) fun k z hz => ?_⟩
     ·obtain ⟨x', h1, h2⟩ := hh 0 y rfl
      simp at h1; subst h1; exact h2
     ·obtain ⟨x', h1, h2⟩ := hh (k + 1) z (by simpa using hz)
      exact ⟨x', by simpa using h1, by rw [show j + 1 + k = j + (k + 1) by omega]; exact h2⟩
  exact key a b 0 h4 fun k y hy => by obtain ⟨x, h6, h7⟩ := h5 k y hy; exact ⟨x, h6, by simpa using h7⟩
 ·rintro (rfl | hh)
  ·exact ag _ _
  ·exact pw hh
section
variable {α : Type} (h l : List α) (n : Nat) (x : α)
@[simp] theorem Nf : (h ++ l)[h.length + n]? = l[n]? := by rw [Q6 (by omega), Q7]
@[simp] theorem vD : (h ++ l).set (h.length + n) x = h ++ l.set n x := by rw [List.set_append_right _ _ (by omega), Q7]
end
@[simp] theorem Dl {α : Type} (h : List α) (i : Nat) (x : α) : Rt h.length (h.set i x) = h.set i x := Q4 (by simp)
@[simp] theorem DU {n : Nat} {h : List (List AV)} (hh : aw n h) (i : Nat) (cs : List AV) : aw n (h.set i cs) ↔ dP n cs \/ h.length <= i := by
 constructor
 ·intro hx
  rcases Rj i h.length with h1 | h1
  ·exact .inl (ib hx i cs (Ra h1))
  ·exact .inr h1
 ·rintro (h1 | h1)
  ·exact aN hh h1
  ·rw [List.set_eq_of_length_le h1]; exact hh
@[simp] theorem FB {α : Type} (h l : List α) (n : Nat) : Rt (h.length + n) (h ++ l) = h ++ l.take n := by rw [Rn, Q4 (by omega), Q7]
mutual
theorem CN {n m : Nat} (hnm : n <= m) : ∀ {a : AV}, a.lt n -> a.lt m
 | .v _, _ => by simp
 | .any, _ => by simp
 | .box i o, h => by simp at h ⊢; omega
 | .bsl i o k n, h => by simp at h ⊢; omega
 | .yld i r c a, h => by simp at h ⊢; exact ⟨by omega, fj hnm h.2⟩
 | .mp i _ _, h => by simp at h ⊢; omega
 | .itr i none _ _, h => by simp at h ⊢; omega
 | .itr i (some j) _ _, h => by simp at h ⊢; omega
 | .ro cs, h => by simp at h ⊢; exact fj hnm h
 | .sl k es nul room, h => by simp at h ⊢; exact al hnm h
 | .fn f a b, h => by simp at h ⊢; exact ⟨fj hnm h.1, fj hnm h.2⟩
 | .agg cs, h => by simp at h ⊢; exact fj hnm h
 | .tup cs, h => by simp at h ⊢; exact fj hnm h
theorem fj {n m : Nat} (hnm : n <= m) : ∀ {l : List AV}, dP n l -> dP m l
 | [], _ => by simp
 | a :: r, h => by simp at h ⊢; exact ⟨CN hnm h.1, fj hnm h.2⟩
theorem al {n m : Nat} (hnm : n <= m) : ∀ {l : List (List AV)}, aw n l -> aw m l
 | [], _ => by simp
 | a :: r, h => by simp at h ⊢; exact ⟨fj hnm h.1, al hnm h.2⟩
end
@[simp] theorem IB {h : List (List AV)} (hh : aw h.length h) (k : Nat) : aw (h.length + k) h := al (Nat.le_add_right _ _) hh
section
variable {α : Type} (h l : List α) (n i : Nat) (x y : α)
@[simp] theorem yY : Rt (h.length + n) (h.set i x ++ l) = h.set i x ++ l.take n := by rw [Rn, Q4 (by simp)]; simp
end
@[simp] theorem LW (a b : Nat) : (a + b < a) = False := by simp
attribute [simp] uN s7 A2 zr
@[simp] theorem uC {α : Type} {l : List α} : ∀ {cs : List α}, cs.length = l.length -> lay cs 0 l = l := fun {cs} hl => by
 apply List.ext_getElem?
 intro j
 rw [ma l cs 0 j (by omega)]
 by_cases hj : j < l.length
 ·rw [if_pos ⟨by omega, by omega⟩, Rd]
 ·rw [if_neg (by omega), Rh (by omega), Rh (by omega)]
section
variable {P : Program} {f : FuncId} {args : List AV} {h : List (List AV)}
theorem enters_of {fn : Func} (h1 : P.funcs[f]? = some fn) (h2 : ((fn.name == "runtime.NumGoroutine") || fn.body.isNone) = false) : Enters P f := by
 rw [Bool.or_eq_false_iff] at h2
 exact ⟨fn, h1, h2.1, h2.2⟩
def fJ (P : Program) (f : FuncId) : Bool :=
 match P.funcs[f]? with
 | some fn => !((fn.name == "runtime.NumGoroutine") || fn.body.isNone)
 | none => false
theorem iX (h : fJ P f = true) : Enters P f := by
 unfold fJ at h
 split at h
 ·rename_i fn hfn; exact enters_of hfn (by simpa using h)
 ·cases h
theorem jk (hE : fJ P f = true) {r : AV} (hr : r.idOf = none) (hc : ∀ (G : Ghost) (w : World) (vs : List Value), WorldOk G w -> SeesL G args vs -> ∃ v, Sees G r v /\ Calls P f vs.toArray w fun e w' => e = .returned v /\ w = w') : Contract P f args h r h [] := by
 refine ⟨iX hE, fun G w vs cls hW hS hvs hown hoh => ?_⟩
 obtain ⟨v, hv, hcl⟩ := hc G w vs hW hvs
 refine hcl.mono fun e w' he => ?_
 obtain ⟨rfl, rfl⟩ := he
 refine ⟨v, G, cls, rfl, Ext.refl G, hW, hS, fun i cs us h1 h2 j c hj => ?_, hv, .none _ hr, fun c hc => (by rw [hr] at hc; cases hc), fun _ _ _ => rfl, fun _ _ hb _ => hb⟩
 obtain ⟨h3, h4⟩ := hoh i cs us h1 h2 j c hj
 exact ⟨h3.imp2 fun b y B hB _ _ hcl => ⟨hcl, .inr (.inr ⟨i, cs, us, j, c, h1, h2, hj, hB⟩)⟩, h4⟩
theorem eX (hE : fJ P f = true) {E : TypeId} {xs : List UInt8} (hc : ∀ (G : Ghost) (w : World) (vs : List Value), WorldOk G w -> SeesL G args vs -> Calls P f vs.toArray w fun e w' => ∃ v, e = .returned v /\ OwnB E w' w.heap.size v xs /\ Below w.heap.size w w') : Contract P f args h (.sl 1 (af xs) none (.own .res)) h [] := by
 refine ⟨iX hE, fun G w vs cls hW hS hvs hown hoh => ?_⟩
 refine (hc G w vs hW hvs).mono fun e w' he => ?_
 obtain ⟨v, rfl, ⟨_, ho⟩, hb⟩ := he
 have hbelow : Below G.w0.heap.size G.w0 w' := hW.below.trans (hb.mono hW.size)
 have hcell : ∀ (b j : Nat), b < w.heap.size -> w'.cell? ⟨b, j, none⟩ = w.cell? ⟨b, j, none⟩ /\ w'.frozen? ⟨b, j, none⟩ = w.frozen? ⟨b, j, none⟩ := fun b j hlt =>
  ⟨World.cell?_of_block (w := w) (a := ⟨b, j, none⟩) (hb.block b hlt), World.frozen?_of_block (w := w) (a := ⟨b, j, none⟩) (hb.block b hlt)⟩
 have own_ : ∀ (G' : Ghost), G'.boxv = G.boxv -> (∀ b B, G.bufs b = some B -> G'.bufs b = some B) -> ∀ cls' : Nat -> Id, (∀ b, b < w.heap.size -> cls' b = cls b) -> ub G' (fun b c => cls' b = c /\ (G.bufs b = none \/ aS G args vs h b)) h := fun G' e1 e2 cls' e3 i cs us h1 h2 j c hj => by
  rw [e1] at h2
  obtain ⟨h3, h4⟩ := hoh i cs us h1 h2 j c hj
  refine ⟨h3.move fun b y B hB _ hbB hcl => ⟨e2 b B hbB, ?_, .inr (.inr ⟨i, cs, us, j, c, h1, h2, hj, hB⟩)⟩, h4⟩
  rw [e3 b (hW.buf b B hbB).2.1]; exact hcl
 rcases ho with ⟨rfl, hn⟩ | ⟨g, cap, cur, rfl, hg, hrow, hcap, hmax, hcs, htake⟩
 ·
  have hxs : xs = [] := Rb hn
  subst hxs
  have hW' : WorldOk G w' := by
   refine ⟨hbelow, fun b B hB => ?_, fun i b us h1 h2 => ?_, hW.nodup2, hW.len, hW.objK (fM hb)⟩
   ·obtain ⟨h1, h2, h3, h4, h5⟩ := hW.buf b B hB
    exact ⟨h1, by have := hb.size; omega, h3, fun j hj => by rw [(hcell b j h2).1, (hcell b j h2).2]; exact h4 j hj, fun j x hx => by rw [(hcell b j h2).1]; exact h5 j x hx⟩
   ·obtain ⟨h3, h4, h5, h6⟩ := hW.box i b us h1 h2
    exact ⟨h3, by have := hb.size; omega, h5, fun j x hx => by rw [(hcell b _ h4).1, (hcell b _ h4).2]; exact h6 j x hx⟩
  refine ⟨_, G, cls, rfl, Ext.refl G, hW', hS, own_ G rfl (fun _ _ h => h) cls (fun _ _ => rfl), ?_, .inl ⟨rfl, fun _ => rfl⟩, fun c hc => (by simp [AV.idOf] at hc; exact hc.symm), fun _ _ _ => rfl, fun _ _ hb _ => hb⟩
  exact .sl 1 [] none _ none 0 0 (fun _ _ => undef) rfl ⟨fun _ => ⟨rfl, rfl⟩, fun h => (by cases h), fun h => (by cases h)⟩ (fun e h => by simp at h) (Rf _) (by simp [maxLen]) (fun h => by cases h) (fun h => by simp at h) (fun i e h => by simp at h) (fun i j h => by simp at h)
 ·have hgw : g < w'.heap.size := by
   rcases Rj g w'.heap.size with h1 | h1
   ·exact h1
   ·rw [Array.getElem?_eq_none h1] at hrow; cases hrow
  let G' : Ghost := G.setBuf g ⟨vals xs, cap⟩
  have hnew : ∀ j, w'.cell? ⟨g, j, none⟩ = cur[j]? /\ (j < cur.size -> w'.frozen? ⟨g, j, none⟩ = false) := fun j => by
   refine ⟨cell_of_row _ _ j cur E (0, 0) hrow, fun hj => ?_⟩
   simp [World.frozen?, hrow]
  have hbufs : ∀ b B, G.bufs b = some B -> G'.bufs b = some B := fun b B hB => by
   have := (hW.buf b B hB).2.1
   show (if b = g then _ else G.bufs b) = _
   rw [if_neg (by omega), hB]
  have hE' : Ext G G' := ⟨rfl, fun b B hB => ⟨[], by rw [hbufs b B hB, Re]⟩, ⟨[], by rw [Re]; rfl⟩, fun _ _ h => h, fun _ _ _ => ⟨rfl, rfl⟩⟩
  have hcur : cur.size = cap := by rw [hcs, Nat.mul_one]
  have hvals : ∀ j x, (vals xs)[j]? = some x -> w'.cell? ⟨g, j, none⟩ = some x := fun j x hx => by
   rw [(hnew j).1]
   rw [<- htake, List.getElem?_take] at hx
   split at hx
   ·rw [<- Array.getElem?_toList]; exact hx
   ·cases hx
  have hW' : WorldOk G' w' := by
   refine ⟨hbelow, fun b B hB => ?_, fun i b us h1 h2 => ?_, hW.nodup2, hW.len, hW.objK (fM hb)⟩
   ·have hB' : (if b = g then some (⟨vals xs, cap⟩ : Buf) else G.bufs b) = some B := hB
    split at hB'
    ·rename_i e
     subst e
     injection hB' with hB'
     subst hB'
     refine ⟨by have := hW.size; show G.w0.heap.size <= _; omega, hgw, by rw [co]; exact hcap, fun j hj => ?_, hvals⟩
     rw [(hnew j).1, (hnew j).2 (by rw [hcur]; exact hj), Array.getElem?_eq_getElem (by rw [hcur]; exact hj)]
     exact ⟨rfl, rfl⟩
    ·obtain ⟨h1, h2, h3, h4, h5⟩ := hW.buf b B hB'
     exact ⟨h1, by have := hb.size; omega, h3, fun j hj => by rw [(hcell b j h2).1, (hcell b j h2).2]; exact h4 j hj, fun j x hx => by rw [(hcell b j h2).1]; exact h5 j x hx⟩
   ·obtain ⟨h3, h4, h5, h6⟩ := hW.box i b us h1 h2
    refine ⟨h3, by have := hb.size; omega, fun hne => ?_, fun j x hx => by rw [(hcell b _ h4).1, (hcell b _ h4).2]; exact h6 j x hx⟩
    show (if b = g then _ else G.bufs b) = none
    rw [if_neg (by omega)]; exact h5 hne
  refine ⟨_, G', fun b => if b = g then .res else cls b, rfl, hE', hW', ⟨hS.1, fun i cs us h1 h2 => ?_⟩, own_ G' rfl hbufs _ (fun b hlt => by show (if b = g then _ else _) = _; rw [if_neg (by omega)]), ?_, .inr ⟨g, 0, ⟨vals xs, cap⟩, rfl, ?_, ?_, ?_, ?_, ?_⟩, fun c hc => (by simp [AV.idOf] at hc; exact hc.symm), fun _ _ _ => rfl, fun b B hB _ => hbufs b B hB⟩
  ·obtain ⟨h3, h4, h5⟩ := hS.2 i cs us h1 h2
   exact ⟨h3, h4, fun j c hj => (h5 j c hj).ext hE'⟩
  ·refine .sl 1 (af xs) none _ (some ⟨g, 0, none⟩) xs.length cap (fun i _ => .int .u8 (bB xs i)) (by simp [af]) ⟨fun h => (by cases h), fun h => (by cases h), fun h => (by cases h)⟩ (fun e he => ?_) hcap hmax (fun h => by cases h) (fun _ => ⟨g, 0, rfl, fun i j hi hj => ?_⟩) (fun i e he j c hj => ?_) (fun _ _ _ _ => rfl)
   ·unfold af at he; obtain ⟨q, _, rfl⟩ := Rk.1 he; rfl
   ·have hi' : i < xs.length := by simpa [af] using hi
    have hj0 : j = 0 := by omega
    subst hj0
    unfold Ghost.cell
    rw [if_neg (by have := hW.size; show ¬ g < G.w0.heap.size; omega)]
    show (if g = g then _ else _ : Option Buf).bind _ = _
    rw [if_pos rfl]
    show (vals xs)[0 + i * 1 + 0]? = _
    rw [show 0 + i * 1 + 0 = i by omega]
    exact ez xs i hi'
   ·have hi' : i < xs.length := by
     have := (Q2.1 he).1; simpa [af] using this
    have e1 : e = [.v (.int .u8 (bB xs i))] := by
     unfold af at he
     rw [Q8, Q1 hi'] at he
     injection he with he
     rw [<- he]
     simp [bB, Q0, hi']
    subst e1
    cases j with
    | zero => simp at hj; subst hj; exact .v _
    | succ j => simp at hj
  ·show (if g = g then _ else _) = _
   rw [if_pos rfl]
  ·rw [co]; simp
  ·simp
  ·simp
  ·left
   cases hB : G.bufs g with
   | none => rfl
   | some B => have := (hW.buf g B hB).2.1; omega
end
theorem SeesL.one {G : Ghost} {a : AV} {vs : List Value} (h : SeesL G [a] vs) : ∃ x, vs = [x] /\ Sees G a x := by
 obtain ⟨x, rfl⟩ := Q9.1 h.1
 exact ⟨x, rfl, h.2 0 a rfl⟩
theorem SeesL.split {G : Ghost} {a : AV} {l : List AV} {vs : List Value} (h : SeesL G (a :: l) vs) : ∃ x r, vs = x :: r /\ Sees G a x /\ SeesL G l r := by
 cases vs with
 | nil => have := h.1; simp at this
 | cons x r => exact ⟨x, r, rfl, h.tail⟩
theorem SeesL.none {G : Ghost} {vs : List Value} (h : SeesL G [] vs) : vs = [] := Rb h.1
theorem Sees.bytes {G : Ghost} {k : Nat} {bs : List UInt8} {nul : Option Bool} {room : Room} {x : Value} (h : Sees G (.sl k (af bs) nul room) x) {w : World} (hW : WorldOk G w) : ∃ a cap, x = .slice a bs.length cap /\ (a = none -> cap = 0) /\ bs.length <= cap /\ cap <= maxLen /\ BytesAt w w.heap.size a bs := by
 have h0 := h
 cases h with
 | sl _ _ _ _ a len cap u hlen hn hk hcap hm =>
  obtain ⟨e, hb⟩ := pV (ed bs) h0 hW
  subst e
  exact ⟨a, cap, rfl, fun ha => (hn.1 ha).1, hcap, hm, hb⟩
theorem mN : ∀ {n : Nat} {l : List AV}, (∀ c ∈ l, c.idOf = none) -> gS n l l
 | _, [], _ => trivial
 | n, c :: _, h => ⟨xQ n (h c (Q3 ..)), mN fun x hx => h x (Q5 _ hx)⟩
theorem gg : ∀ {l : List AV}, (∀ c ∈ l, c.idOf = none) -> cC l l = l
 | [], _ => rfl
 | c :: r, h => by
  show hand c c :: cC r r = c :: r
  rw [ya (h c (Q3 ..)), gg fun x hx => h x (Q5 _ hx)]
theorem bZ : ∀ {l : List AV}, (∀ c ∈ l, c.idOf = none) -> bD l = []
 | [], _ => rfl
 | c :: _, h => by
  rw [fU, h c (Q3 ..)]
  exact bZ fun x hx => h x (Q5 _ hx)
theorem aa {P : Program} {f : FuncId} {args : List AV} {s : St} {d : Option Nat} {K : St -> List Nat -> Prop} {r : AV} {h' : List (List AV)} {wr : List Nat} (hn : ∀ c ∈ args, c.idOf = none) (hc : Contract P f args s.heap r h' wr) (hk : K (s.called args d r h' wr) []) : kO P f args s d K :=
 aj hc (mN hn) (by rw [gg hn, bZ hn]; exact Rq) (by rw [gg hn]; exact hk)
def oG (c : Nat) (b : Bool) (x : XOper) : XOper := ⟨x.dst, x.op, some (c, b)⟩
def oX (d : Nat) (x : XOp) : XOper := ⟨some d, x, none⟩
def oM (d a : Nat) : XOper := ⟨some d, .move (.tmp a), none⟩
def oA (d a : Nat) : XOper := ⟨some d, .assign (.tmp a), none⟩
def oK (d : Nat) (v : Value) : XOper := ⟨some d, .assign (.const v), none⟩
def oN (d : Nat) : XOper := ⟨some d, .assign (.const (.slice none 0 0)), none⟩
def oF (d k a : Nat) : XOper := ⟨some d, .faddr k (.tmp a), none⟩
def oL (d a : Nat) : XOper := ⟨some d, .load1 (.tmp a), none⟩
def oP (d k a : Nat) : XOper := ⟨some d, .loadN k (.tmp a), none⟩
def oE (d a k : Nat) : XOper := ⟨some d, .extract (.tmp a) k, none⟩
def oB (d : Nat) (o : BinOp) (a b : Nat) : XOper := ⟨some d, .bin o (.tmp a) (.tmp b), none⟩
def oI (d : Nat) (o : BinOp) (a : Nat) (v : Value) : XOper := ⟨some d, .bin o (.tmp a) (.const v), none⟩
def oC (d f : Nat) (l : List Nat) : XOper := ⟨some d, .call f (l.map .tmp), none⟩
def oS (n a b : Nat) : XOper := ⟨none, .store n (.tmp a) (.tmp b), none⟩
def oZ (d : Nat) (z : List AV) : XOper := ⟨some d, .alloc z, none⟩
def oY (d i a b : Nat) : XOper := ⟨some d, .pick (.tmp i) (.tmp a) (.tmp b), none⟩
def oT (d i a : Nat) : XOper := ⟨some d, .pick (.tmp i) (.tmp a) (.const (.bool false)), none⟩
def oU (d i a : Nat) : XOper := ⟨some d, .pick (.tmp i) (.const (.bool true)) (.tmp a), none⟩
def oW (d k a b : Nat) : XOper := ⟨some d, .iaddr k (.tmp a) (.tmp b), none⟩
def oH (d a : Nat) : XOper := ⟨some d, .lenL (.tmp a), none⟩
def oV (d a : Nat) : XOper := ⟨some d, .un .not (.tmp a), none⟩
def oJ (d a : Nat) : XOper := ⟨some d, .box (.tmp a), none⟩
def oQ (n a : Nat) (v : Value) : XOper := ⟨none, .store n (.tmp a) (.const v), none⟩
def oR (d k n a : Nat) (z : List AV) : XOper := ⟨some d, .buildSlice k n z [(0, .tmp a)], none⟩
def oD (d k : Nat) (z : List AV) (a : Nat) : XOper := ⟨some d, .build z [(k, 1, .tmp a)], none⟩
attribute [simp] oG oX oM oA oK oN oF oL oP oE oB oI oC oS oZ oY oT oU oW oH oV oJ oQ oR oD
def z0 : List AV := [.v (.int .i64 0),.v (.bool false),.v (.string (ah [])),.v (.string (ah [])),.sl 0 [] (some true) .exact,.sl 0 [] (some true) .exact,.sl 0 [] (some true) .exact,.sl 0 [] (some true) .exact]
def z1 : List AV := [.v (.int .u8 0),.v (.int .u8 0),.v (.string (ah [])),.v (.string (ah [])),.v (.string (ah [])),.sl 0 [] (some true) .exact,.sl 0 [] (some true) .exact,.sl 0 [] (some true) .exact,.sl 0 [] (some true) .exact,.v (.int .i64 0)]
def z2 : List AV := [.v (.int .u8 0),.v (.int .u8 0),.v (.string (ah [])),.v (.string (ah [])),.v (.string (ah [])),.v (.int .i64 0),.v (.int .i64 0),.sl 0 [] (some true) .exact,.sl 0 [] (some true) .exact,.sl 0 [] (some true) .exact,.sl 0 [] (some true) .exact]
def z3 : List AV := [.v (.string (ah [])),.sl 0 [] (some true) .exact]
def z4 : List AV := [.v (.bool false),.v (.string (ah [])),.v (.int .i64 0)]
def z5 : List AV := [.v (.int .u8 0),.v (.int .u8 0),.v (.string (ah [])),.v (.string (ah [])),.v (.string (ah [])),.sl 0 [] (some true) .exact,.sl 0 [] (some true) .exact,.sl 0 [] (some true) .exact,.sl 0 [] (some true) .exact,.v (.int .i64 0),.v (.pointer none),.v (.pointer none),.sl 0 [] (some true) .exact,.sl 0 [] (some true) .exact,.v (.int .i64 0)]
def z6 : List AV := [.v (.int .i64 0),.v (.int .i64 0)]
def z7 : List AV := [.v (.string (ah [])),.v (.int .i64 0),.v (.int .i64 0),.v (.int .i64 0),.v (.int .i64 0),.v (.int .i64 0),.v (.int .i64 0)]
def z8 : List AV := [.v (.int .u8 0),.sl 0 [] (some true) .exact]
def z9 : List AV := [.v (.int .i64 0)]
def Oo : List AV := [.v (.int .i64 0),.v (.int .i64 0),.v (.string (ah [])),.sl 0 [] (some true) .exact]
def zK : List AV := [.v (.int .u8 0)]
def z12 : List AV := [.v (.string (ah []))]
def Ll : List AV := [.sl 0 [] (some true) .exact,.v (.int .i64 0)]
def K4 : List AV := [.v (.bool false),.sl 0 [] (some true) .exact]
def Lf : List AV := [.v (.string (ah [])),.v (.int .i64 0)]
attribute [simp] z0 z1 z2 z3 z4 z5 z6 z7 z8 z9 Oo zK z12 Ll K4 Lf
theorem nx {P : Program} {i : Nat} {r : Loop} {c : Code} {slots args : List AV} {s : St} {d : Option Nat} {K : St -> List Nat -> Prop} {res : AV} {h' : List (List AV)} {wr : List Nat} (hn : ∀ c ∈ args, c.idOf = none) (hc : iw P i r c slots args s.heap res h' wr) (hk : K (s.called args d res h' wr) []) : sJ P i r c slots args s d K :=
 ⟨args, res, h', wr, hc, mN hn, by rw [gg hn, bZ hn]; exact Rq, by rw [gg hn]; exact hk⟩
theorem wrap64 {n : Int} (h1 : -9223372036854775808 <= n) (h2 : n <= 9223372036854775807) : IntKind.i64.wrap n = n := by
 simp only [IntKind.wrap]
 simp [IntKind.bits, IntKind.signed]
 omega
theorem am {P : Program} {m : Frm} {a : XCode} {s : St} {K : XExit -> St -> Prop} {D : Type} (inv : D -> St) (ok : D -> Prop) (μ : D -> Nat) (d0 : D) (hd : ok d0) (h0 : Leq m.h.length s (inv d0)) (hr : ∀ d, ok d -> dU P m a (inv d) (XExit.then (fun s' => ∃ d', ok d' /\ μ d' < μ d /\ Leq m.h.length s' (inv d')) K)) : dU P m (.loop a) s K := by
 refine zA (D := { d : D // ok d }) (fun d => inv d.1) (fun d => μ d.1) ⟨d0, hd⟩ h0 fun d => ?_
 have e : (fun s' => ∃ d' : { d : D // ok d }, μ d'.1 < μ d.1 /\ Leq m.h.length s' (inv d'.1)) = fun s' => ∃ d', ok d' /\ μ d' < μ d.1 /\ Leq m.h.length s' (inv d') := by
  funext s'
  exact propext ⟨fun ⟨d', h1, h2⟩ => ⟨d'.1, d'.2, h1, h2⟩, fun ⟨d', h1, h2, h3⟩ => ⟨⟨d', h1⟩, h2, h3⟩⟩
 rw [e]
 exact hr d.1 d.2
end Go.Proofs.YtdfgljojemmlcaaGreat.Ax
namespace Go.Proofs.YtdfgljojemmlcaaGreat.Ax
open Go.RowKit Go.Deep Go.ChangeShapes Go.WideShapes Go.ChangeAt Go.Joins Go By
def G0 (w : World) : Ghost := ⟨w, fun _ => none, [], [], fun _ => none, fun _ => (none, 0), fun _ => 0⟩
theorem Jj (w : World) (hd : Kh w) : WorldOk (G0 w) w := ⟨Below.refl _ _, fun b B h => (by cases h), fun i b vs h => (by simp [G0] at h), ⟨fun i j b h => (by simp [G0] at h), hd⟩, rfl, fun b o h => (by cases h), fun i b vs κ h => (by simp [G0] at h), fun b h => absurd rfl h, fun b j h => absurd h (Nat.not_lt_zero j)⟩
theorem Cz {w : World} {b o : Nat} {x : Value} (h : w.cell? ⟨b, o, none⟩ = some x) : (G0 w).cell b o = some x := by
 have hb : b < w.heap.size := lg h
 unfold Ghost.cell G0
 rw [if_pos hb, h]
def SeesCs (G : Ghost) (es : List AV) (cs : List Value) : Prop := cs.length = es.length /\ (∀ x ∈ cs, x.oneCell' = true) /\ ∀ j c, es[j]? = some c -> Sees G c (cs.getD j undef)
theorem SeesCs.one {G : Ghost} {a : AV} {x : Value} (h1 : x.oneCell' = true) (h : Sees G a x) : SeesCs G [a] [x] :=
 ⟨rfl, fun y hy => by simp at hy; subst hy; exact h1, fun j c hj => by cases j with | zero => simp at hj; subst hj; exact h | succ j => simp at hj⟩
theorem SeesCs.append {G : Ghost} {es fs : List AV} {cs ds : List Value} (h : SeesCs G es cs) (k : SeesCs G fs ds) : SeesCs G (es ++ fs) (cs ++ ds) := by
 refine ⟨by simp [h.1, k.1], fun x hx => ?_, fun j c hj => ?_⟩
 ·rcases List.mem_append.1 hx with hx | hx
  ·exact h.2.1 x hx
  ·exact k.2.1 x hx
 ·rcases Rj j es.length with hl | hl
  ·rw [Rc hl] at hj
   have := h.2.2 j c hj
   rwa [Q0, Rc (by rw [h.1]; exact hl), <- Q0]
  ·rw [Q6 hl] at hj
   have := k.2.2 _ c hj
   rwa [Q0, Q6 (by rw [h.1]; exact hl), h.1, <- Q0]
theorem SeesCs.single {G : Ghost} {a : AV} {x : Value} (h : SeesCs G [a] [x]) : Sees G a x := h.2.2 0 a rfl
def Shape (P : Program) (t : TypeId) {α : Type} (f : α -> List AV) (ok : α -> Prop) : Prop :=
 ∀ {H : Type} (ai : TypeId × Value -> H) (w : World) (base : Nat) (held : Bool) (n : Nat) (cs : List Value) (x : DataW H × List MemPlace), DataW.trod ai P w base (fun _ => true) held n t cs = some x -> ∃ a, ok a /\ SeesCs (G0 w) (f a) cs
section
variable {P : Program} {t : TypeId}
theorem Shape.map {α β : Type} {f : α -> List AV} {ok : α -> Prop} (h : Shape P t f ok) {f' : β -> List AV} {ok' : β -> Prop} (g : α -> β) (hf : ∀ a, f' (g a) = f a) (hok : ∀ a, ok a -> ok' (g a)) : Shape P t f' ok' := fun ai w base held n cs x hx => by
 obtain ⟨a, h1, h2⟩ := h ai w base held n cs x hx
 exact ⟨g a, hok a h1, by rw [hf]; exact h2⟩
theorem ka {k : IntKind} (ht : P.underlying t = some (.int k)) : Shape P t (fun n : Int => [.v (.int k n)]) (fun n => (Lit.int k n).wf = true) := fun ai w base held n cs x hx => by
 obtain ⟨n, rfl, _, hw⟩ := DataW.trod_int ht hx
 exact ⟨n, hw, .one rfl (.v _)⟩
theorem vG (ht : P.underlying t = some .bool) : Shape P t (fun b : Bool => [.v (.bool b)]) (fun _ => True) := fun ai w base held n cs x hx => by
 obtain ⟨n, rfl, _⟩ := DataW.trod_bool ht hx
 exact ⟨n, trivial, .one rfl (.v _)⟩
theorem xS (s : ByteArray) : ah s.data.toList = s := by apply ByteArray.ext; simp [ah]
theorem yu (ht : P.underlying t = some .string) : Shape P t fS (fun s => s.length <= maxLen) := fun ai w base held n cs x hx => by
 obtain ⟨s, rfl, _, hw⟩ := DataW.trod_string ht hx
 exact ⟨s.data.toList, by simpa using hw, by unfold fS; rw [xS]; exact .one rfl (.v _)⟩
theorem Fz {α : Type} (f : α -> List AV) (l : List α) (i : Nat) {e : List AV} (h : (ai f l)[i]? = some e) : ∃ a, l[i]? = some a /\ f a = e := by
 unfold ai at h
 rw [Q8] at h
 cases hl : l[i]? with
 | none => rw [hl] at h; cases h
 | some a => rw [hl] at h; injection h with h; exact ⟨a, rfl, h⟩
theorem dN {e : TypeId} {k : Nat} {α : Type} {f : α -> List AV} {ok : α -> Prop} (ht : P.underlying t = some (.slice e)) (hk : P.cellsOf e = k) (hp : 0 < k) (he : Shape P e f ok) (hf : ∀ a, (f a).length = k) :
  Shape P t (fun l : List α => [.sl k (ai f l) none .no]) (fun l => l.length <= maxLen /\ ∀ x ∈ l, ok x) := fun en w base held n cs x hx => by
 rcases open_slice ht hx with ⟨rfl, _⟩ | ⟨a, len, cap, m, n, D, Pl, rfl, _, hl, hcm, hm, _, hi⟩
 ·exact ⟨[], ⟨by simp [maxLen], fun x h => by cases h⟩, .one rfl (.sl k [] none .no none 0 0 (fun _ _ => undef) rfl ⟨fun _ => ⟨rfl, rfl⟩, fun h => (by cases h), fun h => (by cases h)⟩ (fun e h => by cases h) (Rf _) (by simp [maxLen]) (fun h => by cases h) (fun h => by simp at h) (fun i e h => by simp at h) (fun i j h => by simp at h))⟩
 ·simp at hm
  by_cases h0 : len = 0
  ·subst h0
   exact ⟨[], ⟨by simp [maxLen], fun x h => by cases h⟩, .one rfl (.sl k [] none .no (some a) 0 cap (fun _ _ => undef) rfl ⟨fun h => (by cases h), fun h => (by cases h), fun h => (by cases h)⟩ (fun e h => by cases h) hl hcm (fun h => by cases h) (fun h => by simp at h) (fun i e h => by simp at h) (fun i j h => by simp at h))⟩
  have at_ : ∀ i, i < len -> ∃ p : α × List Value, ok p.1 /\ SeesCs (G0 w) (f p.1) p.2 /\ p.2.length = k /\ ∀ j u, p.2[j]? = some u -> w.cell? ((a.add (i * k)).add j) = some u := fun i hlt => by
   obtain ⟨cs', hc, ht'⟩ := hi i (by omega)
   rw [hk] at hc
   obtain ⟨_, hlen, hat⟩ := World.cells?_some hc
   obtain ⟨b, h1, h2⟩ := he en w base held n cs' _ ht'
   refine ⟨(b, cs'), h1, h2, hlen, fun j u hu => ?_⟩
   have hj : j < k := by rw [<- hlen]; exact (Q2.1 hu).1
   rw [hat j hj, hu]
  have hel : ∀ i, ∃ p : α × List Value, i < len -> ok p.1 /\ SeesCs (G0 w) (f p.1) p.2 /\ p.2.length = k /\ ∀ j u, p.2[j]? = some u -> w.cell? ((a.add (i * k)).add j) = some u := fun i => by
   by_cases hlt : i < len
   ·obtain ⟨p, hp⟩ := at_ i hlt; exact ⟨p, fun _ => hp⟩
   ·obtain ⟨p, _⟩ := at_ 0 (by omega); exact ⟨p, fun hh => absurd hh hlt⟩
  obtain ⟨g, hg⟩ := Classical.axiomOfChoice hel
  have hget : ∀ i, i < len -> ((Rv len).map fun i => (g i).1)[i]? = some (g i).1 := fun i hi' => by
   rw [Q8, List.getElem?_range hi']; rfl
  refine ⟨(Rv len).map fun i => (g i).1, ⟨by simp; omega, fun x hx => ?_⟩, .one rfl ?_⟩
  ·obtain ⟨i, hi', rfl⟩ := Rk.1 hx
   exact (hg i (List.mem_range.1 hi')).1
  ·refine .sl k _ none .no (some a) len cap (fun i j => (g i).2.getD j undef) (by simp [ai]) ⟨fun h => (by cases h), fun h => (by cases h), fun h => (by cases h)⟩ (fun e he' => ?_) hl hcm (fun h => by cases h) (fun hpos => ?_) (fun i e he' j c hj => ?_) (fun i j hi' hj => ?_)
   ·obtain ⟨x, _, rfl⟩ := Rk.1 he'; exact hf x
   ·obtain ⟨b, off, spot⟩ := a
    obtain ⟨_, _, hl0, hc0⟩ := hg 0 (by omega)
    have h1 := hc0 0 _ (Q1 (by omega))
    have hs : spot = none := by simpa [Addr.add] using World.cell?_spot h1
    subst hs
    refine ⟨b, off, rfl, fun i j hi' hj => ?_⟩
    have hi2 : i < len := by simpa [ai] using hi'
    obtain ⟨_, _, hl1, hc1⟩ := hg i hi2
    have h2 := hc1 j _ (Q1 (by omega))
    rw [By.add_plain, By.add_plain] at h2
    rw [Q0, Q1 (by omega)]
    exact Cz h2
   ·obtain ⟨x, hx1, rfl⟩ := Fz f _ i he'
    have hi2 : i < len := by have := (Q2.1 hx1).1; simpa using this
    rw [hget i hi2] at hx1
    injection hx1 with hx1
    subst hx1
    exact (hg i hi2).2.1.2.2 j c hj
   ·have hi2 : i < len := by simpa [ai] using hi'
    obtain ⟨_, hs, hl1, _⟩ := hg i hi2
    rw [Q0, Q1 (by omega)]
    exact hs.2.1 _ (List.getElem_mem _)
theorem tt {e : TypeId} (ht : P.underlying t = some (.slice e)) (hk : P.cellsOf e = 1) (he : P.underlying e = some (.int .u8)) : Shape P t (fun l : List UInt8 => [.sl 1 (af l) none .no]) (fun l => l.length <= maxLen) := by
 refine Shape.map (dN ht hk (by decide) (f := fun c : UInt8 => [.v (.int .u8 (c.toNat : Int))]) (ok := fun _ => True) (fun {_} ai w base held n cs x hx => ?_) (fun _ => rfl)) id (fun a => rfl) (fun a h => h.1)
 obtain ⟨z, h1, h2⟩ := ka he ai w base held n cs x hx
 obtain ⟨h3, h4⟩ := tP h1
 refine ⟨Rm z.toNat, trivial, ?_⟩
 have : ((Rm z.toNat).toNat : Int) = z := by simp; omega
 show SeesCs _ [.v (.int .u8 ((Rm z.toNat).toNat : Int))] _
 rw [this]; exact h2
def sg (P : Program) (fs : List Field) (o m : Nat) {α : Type} (f : α -> List AV) (ok : α -> Prop) : Prop :=
 ∀ {H : Type} (ai : TypeId × Value -> H) (w : World) (base : Nat) (held : Bool) (n : Nat) (cs : List Value), cs.length = m ->
  (∀ fd ∈ fs, ∃ x : DataW H × List MemPlace, DataW.trod ai P w base (fun _ => true) held n fd.type ((cs.drop (fd.offset - o)).take (P.cellsOf fd.type)) = some x) -> ∃ a, ok a /\ SeesCs (G0 w) (f a) cs
theorem mJ {fd : Field} {o k : Nat} {α : Type} {f : α -> List AV} {ok : α -> Prop} (ho : fd.offset = o) (hk : P.cellsOf fd.type = k) (h : Shape P fd.type f ok) : sg P [fd] o k f ok := fun ai w base held n cs hl hf => by
 obtain ⟨x, hx⟩ := hf fd (Q3 ..)
 rw [ho, Ru, Rr, hk, Q4 (by omega)] at hx
 exact h ai w base held n cs x hx
theorem bY {fd : Field} {fs : List Field} {o k m : Nat} {α β : Type} {f : α -> List AV} {ok : α -> Prop} {g : β -> List AV} {ok' : β -> Prop} (ho : fd.offset = o) (hk : P.cellsOf fd.type = k) (h : Shape P fd.type f ok)
  (ha : fs.all (fun x => decide (o + k <= x.offset)) = true) (hr : sg P fs (o + k) m g ok') : sg P (fd :: fs) o (k + m) (fun p : α × β => f p.1 ++ g p.2) (fun p => ok p.1 /\ ok' p.2) := fun ai w base held n cs hl hf => by
 obtain ⟨x, hx⟩ := hf fd (Q3 ..)
 rw [ho, Ru, Rr, hk] at hx
 obtain ⟨a, h1, h2⟩ := h ai w base held n _ x hx
 obtain ⟨b, h3, h4⟩ := hr ai w base held n (cs.drop k) (by simp; omega) (fun y hy => by
  obtain ⟨z, hz⟩ := hf y (Q5 _ hy)
  have := List.all_eq_true.1 ha y hy
  simp at this
  rw [List.drop_drop]
  exact ⟨z, by rw [show k + (y.offset - (o + k)) = y.offset - o by omega]; exact hz⟩)
 exact ⟨(a, b), ⟨h1, h3⟩, by have := h2.append h4; rwa [List.take_append_drop] at this⟩
theorem iU {fs : Array Field} {m : Nat} {α : Type} {f : α -> List AV} {ok : α -> Prop} (ht : P.underlying t = some (.struct fs)) (hm : P.cellsOf t = m) (h : sg P fs.toList 0 m f ok) : Shape P t f ok := fun ai w base held n cs x hx => by
 obtain ⟨ys, n', _, _, hlen, hyl, hf⟩ := DataW.trod_struct ht hx
 refine h ai w base held n' cs (by omega) fun fd hfd => ?_
 obtain ⟨j, hj⟩ := List.getElem?_of_mem hfd
 have hj' : fs[j]? = some fd := by simpa using hj
 have hlt : j < fs.size := (Array.getElem?_eq_some_iff.1 hj').1
 have := hf j fd hj'
 rw [Rd, this]
 cases hy : ys[j]? with
 | none => rw [List.getElem?_eq_none_iff] at hy; omega
 | some y => exact ⟨y, rfl⟩
variable {H : Type} {ai : TypeId × Value -> H} {w : World} {base : Nat} {held : Bool} {r : Reach} {b0 : Nat} {v : Value} {d : DataW H} {p : List MemPlace} {α : Type} {ok : α -> Prop}
theorem xo {c : α -> AV} (h : Shape P t (fun a => [c a]) ok) (hv : v.cells.toList = [v]) (hd : DataW.Trod ai P w base (fun _ => true) held t v d p) : ∃ a, ok a /\ Sees (G0 w) (c a) v := by
 obtain ⟨fuel, hf⟩ := hd
 obtain ⟨a, h1, h2⟩ := h ai w base held fuel _ _ hf
 rw [hv] at h2
 exact ⟨a, h1, h2.single⟩
theorem arg_int {k : IntKind} (ht : P.underlying t = some (.int k)) (hv : Value.okWide P w r b0 t v) (hd : DataW.Trod ai P w base (fun _ => true) held t v d p) : ∃ n : Int, (Lit.int k n).wf = true /\ Sees (G0 w) (.v (.int k n)) v := by
 obtain ⟨n, rfl⟩ := okWide_int ht hv
 exact xo (ka ht) rfl hd
theorem arg_slice {e : TypeId} {c : α -> AV} (ht : P.underlying t = some (.slice e)) (h : Shape P t (fun a => [c a]) ok) (hv : Value.okWide P w r b0 t v) (hd : DataW.Trod ai P w base (fun _ => true) held t v d p) : ∃ a, ok a /\ Sees (G0 w) (c a) v := by
 obtain ⟨a, l, k, rfl⟩ := okWide_slice ht hv
 exact xo h rfl hd
theorem law_walk {f : FuncId} {args : List AV} {vs : List Value} {b : Bool} {h' : List (List AV)} {wr : List Nat} (hd : Kh w) (hc : Contract P f args [] (.v (.bool b)) h' wr) (hn : ∀ a ∈ args, a.idOf = none) (hs : SeesL (G0 w) args vs) :
  Calls P f vs.toArray w fun e w' => e = .returned (.bool b) /\ Below w.heap.size w w' := by
 refine (hc.2 (G0 w) w vs (fun _ => .res) (Jj w hd) ⟨rfl, fun i cs us h => by simp at h⟩ hs (fun i x hx => ⟨.none _ (hn x (Ri hx)), fun c hc => ?_⟩) (fun i cs us h => by simp at h)).mono fun e w' he => ?_
 ·rw [hn x (Ri hx)] at hc; cases hc
 ·obtain ⟨v, G', cls', rfl, ha⟩ := he
  refine ⟨by rw [ha.sees.inv_v], ?_⟩
  have := ha.ok.below
  rwa [ha.ext.w0] at this
end
section
variable {P : Program} {t : TypeId}
variable {H : Type} {ai : TypeId × Value -> H} {w : World} {base : Nat} {held : Bool} {r : Reach} {b0 : Nat} {v : Value} {d : DataW H} {p : List MemPlace} {α : Type} {ok : α -> Prop}
end
end Go.Proofs.YtdfgljojemmlcaaGreat.Ax
