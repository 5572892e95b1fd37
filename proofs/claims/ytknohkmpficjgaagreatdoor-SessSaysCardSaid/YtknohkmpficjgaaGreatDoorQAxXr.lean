import Derived.Test.YtknohkmpficjgaaGreatDoorQAxQ
import Derived.SizedLaws
set_option linter.unusedSimpArgs false
set_option linter.unusedVariables false
open List renaming getD_eq_getElem?_getD -> Q7, getElem?_eq_some_iff -> Q8, getElem?_eq_getElem -> Q9, getElem?_append_right -> Ra, mem_cons_self -> Rb, take_of_length_le -> Rc, mem_cons_of_mem -> Re, set_eq_of_length_le -> Rf, getElem?_map -> Rh, length_eq_one_iff -> Ri, getElem?_set_self -> Rj, eq_nil_of_length_eq_zero -> Rk, getElem?_append_left -> Rl, set_append_right -> Rp, getElem?_eq_none -> Rq, mem_of_getElem? -> Rr, mem_map -> Rt, take_append -> Rx, append_nil -> Rz, mapM_cons -> RA, drop_zero -> RB, take -> RC, range -> RD
open Nat renaming add_sub_cancel_left -> Rg, sub_zero -> Rm, sub_self -> Rn, lt_or_ge -> Ro, le_refl -> Ru, zero_le -> Rv
open UInt8 renaming ofNat -> Rw
open Array renaming replicate -> Ry
namespace Go.Proofs.YtknohkmpficjgaaGreatDoor.Ax
open Go.RowKit Go By
theorem ag {α : Sort _} {a : α} : a = a := of_eq_true (eq_self a)
def yD (P : Program) (N : Nat) : ResultVar -> Option XOp
 | .tmp t => if t < N then some (.move (.tmp t)) else none
 | .cell t ty => if t < N then cK P ty (.tmp t) else none
def sr (tmps : Array Value) : ResultVar -> Sem Value
 | .tmp t => pure (tmps.getD t undef)
 | .cell t ty => do loadVar ty (<- asAddr (tmps.getD t undef))
structure XFun where
 n : Nat
 code : XCode
 res : List XOp
def ai (P : Program) (f : FuncId) : Option XFun :=
 match P.funcs[f]? with
 | some fn => match fn.body with
  | some c => if (fn.name == "runtime.NumGoroutine") = false then
    match aP P fn.ntmps c, fn.results.toList.mapM (yD P fn.ntmps) with
    | some x, some rs => some ⟨fn.ntmps, x, rs⟩
    | _, _ => none
   else none
  | none => none
 | none => none
def np (s : St) : List XOp -> Prop
 | [] => True
 | x :: r => (bH s x).ok /\ np s r
def me (rs : List XOp) (s : St) : AV :=
 match rs with
 | [x] => (bH s x).val
 | l => .tup (l.map fun x => (bH s x).val.unown)
def iu (m : Nat) : AV -> AV
 | .sl k es nul (.own c) => match c with
  | .cell i _ => if i < m then .sl k es nul .no else .sl k es nul (.own .res)
  | _ => .sl k es nul (.own .res)
 | a => a
def xr (rs : List XOp) (n : Nat) (r : AV) (h' : List (List AV)) (wr : List Nat) (s : St) : Prop :=
 np s rs /\ n <= h'.length /\ h'.length <= s.heap.length /\ LeqV .res (iu h'.length (me rs s)) r /\ r.lt h'.length /\ iQ 0 (s.heap.take h'.length) h' /\ aR h'.length h' /\ ∀ i ∈ s.wr, i < n -> i ∈ wr
def GW (rs : List XOp) (n : Nat) (r : AV) (h' : List (List AV)) (wr : List Nat) : XExit -> St -> Prop
 | .exit _, _ => False
 | _, s => xr rs n r h' wr s
def ck (own : Bool) : Nat -> List AV -> List (Nat × AV)
 | _, [] => []
 | i, a :: r => bif a.idOf.isSome == own then (i, a) :: ck own (i + 1) r else ck own (i + 1) r
def enter (args : List AV) (h : List (List AV)) : St := ⟨ck false 0 args, ck true 0 args, h, []⟩
theorem iJ (own : Bool) : ∀ (l : List AV) (i t : Nat) (a : AV), find (ck own i l) t = some a -> i <= t /\ l[t - i]? = some a /\ a.idOf.isSome = own
 | [], i, t, a, h => by simp [ck, find] at h
 | x :: l, i, t, a, h => by
  unfold ck at h
  have rec_ : find (ck own (i + 1) l) t = some a -> i <= t /\ (x :: l)[t - i]? = some a /\ a.idOf.isSome = own := fun h => by
   obtain ⟨h1, h2, h3⟩ := iJ own l (i + 1) t a h
   refine ⟨by omega, ?_, h3⟩
   rw [show t - i = (t - (i + 1)) + 1 by omega]
   simpa using h2
  cases hx : (x.idOf.isSome == own) with
  | true =>
   rw [hx] at h
   simp only [cond_true, find] at h
   split at h
   ·rename_i e
    injection h with h; subst h e
    exact ⟨Ru _, by simp, by simpa using hx⟩
   ·exact rec_ h
  | false => rw [hx] at h; exact rec_ h
theorem fC (own : Bool) : ∀ (l : List AV) (i t : Nat) (a : AV), i <= t -> l[t - i]? = some a -> a.idOf.isSome = own -> find (ck own i l) t = some a
 | [], i, t, a, _, h, _ => by simp at h
 | x :: l, i, t, a, hi, h, ho => by
  unfold ck
  by_cases e : t = i
  ·subst e
   simp at h; subst h
   simp [ho, find]
  ·have h2 : l[t - (i + 1)]? = some a := by
    rw [show t - i = (t - (i + 1)) + 1 by omega] at h
    simpa using h
   have := fC own l (i + 1) t a (by omega) h2 ho
   cases hx : (x.idOf.isSome == own) with
   | true => simp only [cond_true, find]; rw [if_neg (by omega)]; exact this
   | false => exact this
theorem nY (args : List AV) (h : List (List AV)) (t : Nat) : (enter args h).look t = (match args[t]? with | some a => a | none => .any) := by
 unfold St.look enter
 dsimp only
 cases hT : find (ck true 0 args) t with
 | some a =>
  obtain ⟨_, h2, _⟩ := iJ true args 0 t a hT
  rw [Rm] at h2
  rw [h2]
 | none =>
  dsimp only
  cases hF : find (ck false 0 args) t with
  | some a =>
   obtain ⟨_, h2, _⟩ := iJ false args 0 t a hF
   rw [Rm] at h2
   rw [h2]
  | none =>
   dsimp only
   cases ha : args[t]? with
   | none => rfl
   | some a =>
    exfalso
    cases ho : a.idOf.isSome with
    | true => rw [fC true args 0 t a (Rv _) (by simpa using ha) ho] at hT; cases hT
    | false => rw [fC false args 0 t a (Rv _) (by simpa using ha) ho] at hF; cases hF
section
variable {P : Program} {C : Ctx} {N : Nat} {G : Ghost} {cls : Nat -> Id} {s : St} {a : Act} {w : World}
theorem Hk (h : Rel C N G cls s a w) {x : Operand} (hx : cm N x = true) {op : XOp} (ho : op = .load1 x \/ ∃ n, op = .loadN n x) (hok : (bH s op).ok) : ∃ p, a.eval x = .pointer (some p) := by
 have h1 := h.get hx
 have key : (∃ i o, s.get x = .box i o) \/ ∃ cs, s.get x = .ro cs := by
  rcases ho with rfl | ⟨n, rfl⟩
  ·replace hok : (ep s.heap (s.get x)).ok := hok
   unfold ep at hok
   split at hok
   ·rename_i e; exact .inl ⟨_, _, e⟩
   ·rename_i e; exact .inr ⟨_, e⟩
   ·exact hok.elim
  ·replace hok : (dG s.heap n (s.get x)).ok := hok
   unfold dG at hok
   split at hok
   ·rename_i e; exact .inl ⟨_, _, e⟩
   ·rename_i e; exact .inr ⟨_, e⟩
   ·exact hok.elim
 rcases key with ⟨i, o, e⟩ | ⟨cs, e⟩
 ·rw [e] at h1; obtain ⟨b, hb, _⟩ := h1.inv_box; exact ⟨_, hb⟩
 ·rw [e] at h1; obtain ⟨b, o, u, hb, _⟩ := h1.inv_ro; exact ⟨_, hb⟩
theorem vf {ty : TypeId} {x : Operand} {op : XOp} (h : cK P ty x = some op) : (op = .load1 x \/ ∃ n, op = .loadN n x) /\ op.isVal = true := by
 unfold cK at h
 split at h
 ·cases hs : cz P ty with
  | none => rw [hs] at h; cases h
  | some n => rw [hs] at h; injection h with h; subst h; exact ⟨.inr ⟨n, rfl⟩, rfl⟩
 ·cases hs : cz P ty with
  | none => rw [hs] at h; cases h
  | some n => rw [hs] at h; injection h with h; subst h; exact ⟨.inr ⟨n, rfl⟩, rfl⟩
 ·injection h with h; subst h; exact ⟨.inl rfl, rfl⟩
 ·cases h
theorem zo (h : Rel C N G cls s a w) {r : ResultVar} {op : XOp} (hc : yD P N r = some op) (hok : (bH s op).ok) :
  ∃ v, (sr a.tmps r).run P w = .ok v w /\ Sees G (bH s op).val v /\ OwnAt G (Own C cls) (bH s op).val v := by
 cases r with
 | tmp t =>
  replace hc : (if t < N then some (XOp.move (.tmp t)) else none) = some op := hc
  split at hc
  ·rename_i ht
   injection hc with hc; subst hc
   exact ⟨_, rfl, h.env t ht⟩
  ·cases hc
 | cell t ty =>
  replace hc : (if t < N then cK P ty (.tmp t) else none) = some op := hc
  split at hc
  ·rename_i ht
   obtain ⟨h1, h2⟩ := vf hc
   have hfx : cm N (.tmp t) = true := by simpa [cm] using ht
   obtain ⟨v, h3, h4, _, h6⟩ := ma (P := P) h { (default : Oper) with dst := none, op := .load ty (.tmp t) } op hc h2 (by simp [ap, Op.operands, hfx]) hok
   obtain ⟨p, hp⟩ := Hk h hfx h1 hok
   have h7 := h6 G w (Ext.refl G) h.ok fun _ _ => rfl
   have hp' : a.tmps.getD t undef = .pointer (some p) := hp
   refine ⟨v, ?_, h3, h4⟩
   simp only [execOp, Instr.loadAt, Instr.sureAddr, hp, Sem.run_bind, Sem.run_pure, Result.andThen_ok] at h7
   unfold sr
   simp only [hp', asAddr, Sem.run_bind, Sem.run_pure, Result.andThen_ok]
   cases hl : (loadVar ty p).run P w with
   | ok v' w' => rw [hl] at h7; simpa using h7
   | halt x w' => rw [hl] at h7; simp at h7
  ·cases hc
theorem ow (h : Rel C N G cls s a w) : ∀ (rs : List ResultVar) (ops : List XOp), rs.mapM (yD P N) = some ops -> np s ops ->
  ∃ vs : List Value, (rs.mapM (sr a.tmps)).run P w = .ok vs w /\ vs.length = ops.length /\ ∀ (j : Nat) (op : XOp), ops[j]? = some op -> Sees G (bH s op).val (vs.getD j undef) /\ OwnAt G (Own C cls) (bH s op).val (vs.getD j undef)
 | [], ops, hc, _ => by
  simp at hc; subst hc
  exact ⟨[], by simp, rfl, fun j op hj => by simp at hj⟩
 | r :: rs, ops, hc, hok => by
  simp only [RA, Option.bind_eq_bind, Option.pure_def] at hc
  cases hr : yD P N r with
  | none => rw [hr] at hc; cases hc
  | some op =>
   cases hrs : rs.mapM (yD P N) with
   | none => rw [hr, hrs] at hc; cases hc
   | some ops' =>
    rw [hr, hrs] at hc
    simp at hc; subst hc
    obtain ⟨v, h1, h2, h3⟩ := zo h hr hok.1
    obtain ⟨vs, h4, h5, h6⟩ := ow h rs ops' hrs hok.2
    refine ⟨v :: vs, ?_, by simp [h5], fun j o hj => ?_⟩
    ·simp only [RA, Sem.run_bind, h1, Result.andThen_ok, h4, Sem.run_pure]
    ·cases j with
     | zero => simp at hj; subst hj; exact ⟨h2, h3⟩
     | succ j => simpa using h6 j o (by simpa using hj)
theorem qc (h : Rel C N G cls s a w) (fn : Func) (rs : List XOp) (hc : fn.results.toList.mapM (yD P N) = some rs) (hok : np s rs) : ∃ v, (results fn a.tmps).run P w = .ok v w /\ Sees G (me rs s) v /\ OwnAt G (Own C cls) (me rs s) v := by
 obtain ⟨vs, h1, h2, h3⟩ := ow (P := P) h fn.results.toList rs hc hok
 have hrun : (results fn a.tmps).run P w = .ok (if h : vs.toArray.size = 1 then vs.toArray[0] else .tuple vs.toArray) w := by
  show (do let vs <- fn.results.mapM (sr a.tmps)
           pure (if h : vs.size = 1 then vs[0] else .tuple vs) : Sem Value).run P w = _
  rw [Array.mapM_eq_mapM_toList]
  simp only [Sem.run_bind, Sem.run_map, h1, Result.andThen_ok, Sem.run_pure]
 refine ⟨_, hrun, ?_⟩
 by_cases hl : vs.length = 1
 ·obtain ⟨v, rfl⟩ : ∃ v, vs = [v] := Ri.1 hl
  obtain ⟨op, rfl⟩ : ∃ op, rs = [op] := Ri.1 (by rw [<- h2]; rfl)
  exact h3 0 op rfl
 ·have hx : me rs s = .tup (rs.map fun x => (bH s x).val.unown) := by
   unfold me
   split
   ·simp at h2; exact absurd h2 hl
   ·rfl
  rw [hx]
  refine ⟨?_, .none _ rfl⟩
  rw [dif_neg (by simpa using hl)]
  refine .tup _ _ (by simpa using h2) fun j c hj => ?_
  rw [Rh] at hj
  cases ho : rs[j]? with
  | none => rw [ho] at hj; cases hj
  | some op => rw [ho] at hj; injection hj with hj; subst hj; exact (h3 j op ho).1.unown
end
theorem fN (m : Nat) (x : AV) : (iu m x = x /\ x.idOf = none) \/ (iu m x = x.unown /\ x.idOf ≠ none) \/ ∃ c, x.idOf = some c /\ iu m x = x.relabel .res /\ ∀ i j, c = .cell i j -> m <= i := by
 cases x with
 | sl k es nul room =>
  cases room with
  | own c =>
   cases c with
   | cell i j =>
    unfold iu
    by_cases hi : i < m
    ·right; left; simp [hi, AV.unown, AV.idOf]
    ·right; right
     refine ⟨_, rfl, by simp [hi, AV.relabel], fun i' j' e => ?_⟩
     injection e with e; omega
   | _ => right; right; exact ⟨_, rfl, rfl, fun i j e => by cases e⟩
  | _ => exact .inl ⟨rfl, rfl⟩
 | _ => exact .inl ⟨rfl, rfl⟩
theorem bR {P : Program} {f : FuncId} {X : XFun} (y : XCode) (hf : ai P f = some X) (hy : y.strip = X.code) (hm : P.follows .mixedOrders = true) {args : List AV} {h : List (List AV)} {r : AV} {h' : List (List AV)} {wr : List Nat} (ha : args.length <= X.n)
  (hx : aR h.length h -> cg h.length args -> dH P ⟨h, args⟩ y (enter args h) (GW X.res h.length r h' wr)) : ae P f args h r h' wr := by
 unfold ai at hf
 split at hf
 ·rename_i fn hfn
  split at hf
  ·rename_i c hb
   split at hf
   ·rename_i hname
    split at hf
    ·rename_i x rs hc hr
     injection hf with hf; subst hf
     refine ⟨⟨fn, hfn, hname, by rw [hb]; rfl⟩, fun G w vs cls hW hS hvs hown hoh => ?_⟩
     have hlen : h.length = G.boxes.length := by rw [hS.1, hW.len]
     have hx := hx (iR fun i e he => cE fun j c hj => by
      have hi : i < G.boxv.length := by rw [<- hS.1]; exact (Q8.1 he).1
      rw [hlen]
      exact ((hS.2 i e _ he (Q9 hi)).2.2 j c hj).lt) (cE fun j c hj => by rw [hlen]; exact (hvs.2 j c hj).lt)
     let C : Ctx := ⟨G, az G args vs h⟩
     have hl : vs.length = args.length := hvs.1
     have hR : Rel C fn.ntmps G cls (enter args h) { tmps := vs.toArray ++ Ry (fn.ntmps - vs.toArray.size) undef, defers := [] } w := by
      refine ⟨hW, hS, fun i cs us h1 h2 j c hj => ?_, fun t ht => ?_, fun t ht => ?_, ?_, Marks.none _ _, Ext.refl G, fun _ _ _ => rfl, fun _ _ hb _ => hb⟩
      ·obtain ⟨h3, h4⟩ := hoh i cs us h1 h2 j c hj
       exact ⟨h3.imp2 fun b y B hB _ _ hcl => ⟨hcl, .inr (.inr ⟨i, cs, us, j, c, h1, h2, hj, hB⟩)⟩, h4⟩
      ·rw [nY]
       cases hat : args[t]? with
       | none => exact ⟨.any _, trivial⟩
       | some x =>
        have hlt : t < vs.length := by rw [hl]; exact (Q8.1 hat).1
        have e : (vs.toArray ++ Ry (fn.ntmps - vs.toArray.size) undef).getD t undef = vs.getD t undef := by
         rw [Array.getD_eq_getD_getElem?, Array.getElem?_append_left (by simpa using hlt), Q7]
         simp
        show Sees G x _ /\ OwnAt G _ x _
        rw [e]
        exact ⟨hvs.2 t x hat, (hown t x hat).1.imp2 fun b y B hB _ _ hcl => ⟨hcl, .inr (.inl ⟨t, x, hat, hB⟩)⟩⟩
      ·rw [nY]
       cases hat : args[t]? with
       | none => rfl
       | some x =>
        show x.idOf = none
        cases hi : x.idOf with
        | none => rfl
        | some y =>
         have := fC true args 0 t x (Rv _) (by simpa using hat) (by rw [hi]; rfl)
         rw [show (enter args h).own = ck true 0 args from rfl, this] at ht
         cases ht
      ·have : args.length <= fn.ntmps := ha
       simp; omega
     refine (callsIn_wide (n := 0)).1 (callsIn_of_wp_marks (F := Fr none) hfn hb trivial (wpIn_mono (zY (rr := none) (C := C) hm hS.1.symm (by show G.boxes.length = _; rw [<- hW.len]; exact hS.1.symm) ⟨hS, fun hp => gj (m := ⟨h, args⟩) hp⟩ y y.okIn_none c (by rw [hy]; exact hc) _ _ hx G cls _ w hR) fun e a' w' hh => ?_))
     have fin0 : ∀ s G' cls' a' w', Rel C fn.ntmps G' cls' s a' w' -> xr rs h.length r h' wr s -> ∃ v, (results fn a'.tmps).run P w' = .ok v w' /\ ∃ v' G'' cls'', Ending.returned v = .returned v' /\ After G (az G args vs h) r h' wr v' G'' cls'' w' := by
      intro s G' cls' a' w' hR' hL
      obtain ⟨l1, l2, l3, l4, l5, l6, l7, l8⟩ := hL
      obtain ⟨v, hv, hs, ho⟩ := qc (P := P) hR' fn rs hr l1
      refine ⟨v, hv, v, ?_⟩
      have hq : Leq h.length { s with env := [], own := [] } ⟨[], [], h', wr⟩ := ⟨l2, l3, l6, l7, trivial, trivial, l8⟩
      have hR0 : Rel C fn.ntmps G' cls' { s with env := [], own := [] } a' w' :=
       ⟨hR'.ok, hR'.heap, hR'.ownh, fun t ht => ⟨.any _, trivial⟩, fun t ht => rfl, hR'.size, hR'.defers, hR'.ext, hR'.boxes, hR'.bufs⟩
      have hR2 : Rel C fn.ntmps (G'.trunc h'.length) cls' ⟨[], [], h', wr⟩ a' w' := by
       obtain ⟨G2, hG2, hR2⟩ := hq.rel' hS.1.symm (by show G.boxes.length = _; rw [<- hW.len]; exact hS.1.symm) hR0
       rw [hG2] at hR2
       exact hR2
      have hs2 : Sees (G'.trunc h'.length) r v := by
       have : Sees G' (iu h'.length (me rs s)) v := by
        rcases fN h'.length (me rs s) with ⟨e, _⟩ | ⟨e, _⟩ | ⟨c, _, e, _⟩ <;> rw [e]
        ·exact hs
        ·exact hs.unown
        ·exact hs.relabel _
       exact (l4.sees this).trunc l5
      obtain ⟨cls2, k1, k2⟩ : ∃ cls2 : Nat -> Id, OwnAt G' (fun b c => cls2 b = c /\ (G.bufs b = none \/ az G args vs h b)) (iu h'.length (me rs s)) v /\ ∀ b i j, i < h'.length -> cls' b = .cell i j -> cls2 b = cls' b := by
       rcases fN h'.length (me rs s) with ⟨e, e2⟩ | ⟨e, _⟩ | ⟨c, e1, e, e2⟩ <;> rw [e]
       ·exact ⟨cls', .none _ e2, fun _ _ _ _ _ => rfl⟩
       ·exact ⟨cls', .none _ (AV.idOf_unown _), fun _ _ _ _ _ => rfl⟩
       ·classical
        refine ⟨fun b => if cls' b = c then .res else cls' b, ho.relabel _ fun b y B _ hy _ hcl => ?_, fun b i j hi hb => ?_⟩
        ·rw [e1] at hy; injection hy with hy; subst hy
         exact ⟨by show (if _ then _ else _) = _; rw [if_pos hcl.1], hcl.2⟩
        ·show (if _ then _ else _) = _
         rw [if_neg]
         intro hh
         have := e2 i j (hh.symm.trans hb)
         omega
      refine ⟨G'.trunc h'.length, cls2, rfl, hR2.ext, hR2.ok, hR2.heap, fun i cs us h1 h2 j c hj => ?_, hs2, ?_, fun c hc => ?_, fun i hi hn => hR2.boxes i hi hn, fun b B hb hT => hR2.bufs b B hb hT⟩
      ·obtain ⟨h3, h4⟩ := hR2.ownh i cs us h1 h2 j c hj
       have hi : i < h'.length := (Q8.1 h1).1
       refine ⟨h3.imp2 fun b y B _ hy _ hcl => ?_, h4⟩
       have := h4 y hy
       subst this
       exact ⟨(k2 b i j hi hcl.1).trans hcl.1, hcl.2⟩
      ·have : Sees G' (iu h'.length (me rs s)) v := by
        rcases fN h'.length (me rs s) with ⟨e, _⟩ | ⟨e, _⟩ | ⟨c, _, e, _⟩ <;> rw [e]
        ·exact hs
        ·exact hs.unown
        ·exact hs.relabel _
       exact (l4.own this k1).keep fun b B c hb _ => hb
      ·rcases l4.id with e | e | e | ⟨_, e, _⟩
       ·rw [e] at hc; cases hc
       ·rw [e] at hc; injection hc with hc; exact hc.symm
       ·rw [e] at hc
        rcases fN h'.length (me rs s) with ⟨e3, e2⟩ | ⟨e3, _⟩ | ⟨c', e1, e3, _⟩ <;> rw [e3] at hc
        ·rw [e2] at hc; cases hc
        ·rw [AV.idOf_unown] at hc; cases hc
        ·rw [fh, e1] at hc; injection hc with hc; exact hc.symm
       ·cases e
     have fin : ∀ (Ds : List Nat) (s : St) (G' : Ghost) (cls' : Nat -> Id) (a' : Act) (w' : World), a'.defers = Ds.map fe -> Rel C fn.ntmps G' cls' s a' w' -> xr rs h.length r h' wr s ->
       LeavesInM (Fr none) 0 P fn a'.tmps (fun e w' => ∃ v G' cls', e = .returned v /\ After G (az G args vs h) r h' wr v G' cls' w') a'.defers .returning w' := by
      intro Ds
      induction Ds with
      | nil =>
       intro s G' cls' a' w' hd hR' hL
       rw [hd]
       obtain ⟨v, hv, v', G2, c2, e, hA⟩ := fin0 s G' cls' a' w' hR' hL
       exact ⟨v, hv, v', G2, c2, e, hA⟩
      | cons D Ds ih =>
       intro s G' cls' a' w' hd hR' hL
       obtain ⟨hobj, hR2⟩ := hR'.shut hd
       rw [hd]
       exact ⟨by simp, .inl ⟨D, _, rfl, run_takeDeferred hobj, ih s _ cls' { a' with defers := Ds.map fe } _ rfl hR2 hL⟩⟩
     cases e with
     | normal => obtain ⟨s, G', cls', h1, h2⟩ := hh; obtain ⟨Ds, hd, _⟩ := h1.defers; exact fin Ds s G' cls' a' w' hd h1 h2
     | ret => obtain ⟨s, G', cls', h1, h2⟩ := hh; obtain ⟨Ds, hd, _⟩ := h1.defers; exact fin Ds s G' cls' a' w' hd h1 h2
     | exit id => obtain ⟨s, G', cls', h1, h2⟩ := hh; exact h2.elim
     | _ => exact hh.elim
    ·cases hf
   ·cases hf
  ·cases hf
 ·cases hf
theorem bt {P : Program} {N : Nat} : ∀ (c : Code) (x : XCode), aP P N c = some x -> x.strip = x
 | .scope c, x, h => bt c x h
 | .skip, x, h => by injection h with h; subst h; rfl
 | .label _, x, h => by injection h with h; subst h; rfl
 | .ret, x, h => by injection h with h; subst h; rfl
 | .exit _, x, h => by injection h with h; subst h; rfl
 | .region _ _ _, x, h => by rcases aD h with ⟨_, xs, _, rfl⟩ | ⟨_, _, t, _, rfl⟩ | ⟨_, _, _, _, _, rfl⟩ | ⟨_, _, _, _, _, _, rfl⟩ <;> rfl
 | .seq c d, x, h => by obtain ⟨y, z, h1, h2, rfl⟩ := bv h; simp only [XCode.strip, bt c y h1, bt d z h2]
 | .cond v c d, x, h => by obtain ⟨y, z, _, h1, h2, rfl⟩ := aV h; simp only [XCode.strip, bt c y h1, bt d z h2]
 | .block i c, x, h => by obtain ⟨y, h1, rfl⟩ := aL h; simp only [XCode.strip, bt c y h1]
 | .loop c, x, h => by obtain ⟨y, h1, rfl⟩ := aW h; simp only [XCode.strip, bt c y h1]
 | .goto _, x, h => by cases h
 | .refuse _, x, h => by cases h
 | .rangeFunc g ps c d, x, h => by obtain ⟨y, z, _, _, _, h1, h2, rfl⟩ := aM h; simp only [XCode.strip, bt c y h1, bt d z h2]
theorem vb {P : Program} {f : FuncId} {X : XFun} (hf : ai P f = some X) : X.code.strip = X.code := by
 unfold ai at hf
 split at hf
 ·split at hf
  ·split at hf
   ·split at hf
    ·rename_i x rs hc hr
     injection hf with hf; subst hf
     exact bt _ _ hc
    ·cases hf
   ·cases hf
  ·cases hf
 ·cases hf
theorem ac {P : Program} {f : FuncId} {X : XFun} (hf : ai P f = some X) (hm : P.follows .mixedOrders = true) {args : List AV} {h : List (List AV)} {r : AV} {h' : List (List AV)} {wr : List Nat} (ha : args.length <= X.n)
  (hx : aR h.length h -> cg h.length args -> dH P ⟨h, args⟩ X.code (enter args h) (GW X.res h.length r h' wr)) : ae P f args h r h' wr :=
 bR X.code hf (vb hf) hm ha hx
def kJ (v : Val) (s : St) (d : Option Nat) (K : St -> List Nat -> Prop) : Prop := v.ok /\ K (s.puts d v.val v.own) v.ld
def LG (o : Option (List AV)) (s : St) (d : Option Nat) (K : St -> List Nat -> Prop) : Prop := ax o fun l => K ({ s with heap := s.heap ++ [l.map AV.unown] }.puts d (.box s.heap.length 0) false) []
def Cx (o : Option (List AV)) (k len : Nat) (s : St) (d : Option Nat) (K : St -> List Nat -> Prop) : Prop := ax o fun cs => K (s.puts d (.sl k (bO k len cs) (some false) .exact) false) []
def CA (o : Option St) (d : Option Nat) (K : St -> List Nat -> Prop) : Prop := ax o fun s' => K (s'.puts d .any false) []
theorem ao {P : Program} {f : FuncId} {args bs : List AV} {s : St} {d : Option Nat} {K : St -> List Nat -> Prop} {r : AV} {h' : List (List AV)} {wr : List Nat} (hc : ae P f bs s.heap r h' wr) (hf : gv 0 args bs) (hn : (aZ (bF args bs)).Nodup) (hk : K (s.called (bF args bs) d r h' wr) []) : jK P f args s d K :=
 .inl ⟨bs, r, h', wr, hc, hf, hn, hk⟩
@[simp] theorem Dw (x y : Bool) : (bf x y).map AV.unown = bf x y := rfl
@[simp] theorem Ig : ja [] = [] := rfl
@[simp] theorem Fl (k : Nat) (a : AV) (r : List (Nat × AV)) : ja ((k, a) :: r) = (k, a.unown) :: ja r := rfl
attribute [simp] St.round St.turn
theorem Cy {P : Program} {m : Frm} {a : XCode} {s : St} {K : XExit -> St -> Prop} {D : Type} (inv : D -> St) (μ : D -> Nat) (d0 : D) (h0 : Leq m.h.length s (inv d0)) (hr : ∀ d, dH P m a (inv d) (XExit.then (fun s' => ∃ d', μ d' < μ d /\ Leq m.h.length s' (inv d')) K)) : dH P m (.loop a) s K :=
 ⟨D, inv, μ, ⟨d0, h0⟩, hr⟩
section
variable {P : Program} {m : Frm} {e o : List (Nat × AV)} {h : List (List AV)} {wr : List Nat} {s : St} {K : XExit -> St -> Prop}
@[simp] theorem L1 : dH P m .skip ⟨e, o, h, wr⟩ K = K .normal ⟨e, o, h, wr⟩ := ag
@[simp] theorem M2 (xs : List XOper) : dH P m (.ops xs) ⟨e, o, h, wr⟩ K = eG P xs ⟨e, o, h, wr⟩ [] fun s' _ => K .normal s' := ag
@[simp] theorem Km (t : XTree) : dH P m (.draws t) ⟨e, o, h, wr⟩ K = bu P t ⟨e, o, h, wr⟩ [] (K .normal) := ag
@[simp] theorem M4 (a b : XCode) : dH P m (.seq a b) ⟨e, o, h, wr⟩ K = dH P m a ⟨e, o, h, wr⟩ (XExit.then (fun s' => dH P m b s' K) K) := ag
@[simp] theorem Kl (id : Nat) (a : XCode) : dH P m (.block id a) ⟨e, o, h, wr⟩ K = dH P m a ⟨e, o, h, wr⟩ (XExit.inBlock id K) := ag
@[simp] theorem L0 (id : Nat) : dH P m (.exit id) ⟨e, o, h, wr⟩ K = K (.exit id) ⟨e, o, h, wr⟩ := ag
@[simp] theorem Kn (d : Option Nat) (x : Operand) (xs : List XOper) : dH P m (.nexts d x xs) ⟨e, o, h, wr⟩ K = mP ⟨e, o, h, wr⟩ d (St.get ⟨e, o, h, wr⟩ x) fun s' => eG P xs s' [] fun s' _ => K .normal s' := ag
@[simp] theorem Ko (t d : Nat) (f : Option Nat) (g : FuncId) : dH P m (.sortr t d f g) ⟨e, o, h, wr⟩ K = yi P m t d f g ⟨e, o, h, wr⟩ (K .normal) := ag
@[simp] theorem M3 : dH P m .ret ⟨e, o, h, wr⟩ K = K .ret ⟨e, o, h, wr⟩ := ag
@[simp] theorem I9 (x : Operand) (a b : XCode) (hx : St.get ⟨e, o, h, wr⟩ x = .v (.bool true)) : dH P m (.cond x a b) ⟨e, o, h, wr⟩ K = dH P m a ⟨e, o, h, wr⟩ K := by simp [dH, hx, ry]
@[simp] theorem I8 (x : Operand) (a b : XCode) (hx : St.get ⟨e, o, h, wr⟩ x = .v (.bool false)) : dH P m (.cond x a b) ⟨e, o, h, wr⟩ K = dH P m b ⟨e, o, h, wr⟩ K := by simp [dH, hx, ry]
theorem bh {x : Operand} {a b : XCode} (c : Bool) (hx : St.get s x = .v (.bool c)) (ht : c = true -> dH P m a s K) (hf : c = false -> dH P m b s K) : dH P m (.cond x a b) s K := by
 unfold dH ry; rw [hx]; exact ⟨ht, hf⟩
@[simp] theorem Fj (k : St -> Prop) : XExit.then k K .normal ⟨e, o, h, wr⟩ = k ⟨e, o, h, wr⟩ := ag
@[simp] theorem JJ (k : St -> Prop) (id : Nat) : XExit.then k K (.exit id) ⟨e, o, h, wr⟩ = K (.exit id) ⟨e, o, h, wr⟩ := ag
@[simp] theorem Ly (k : St -> Prop) : XExit.then k K .ret ⟨e, o, h, wr⟩ = K .ret ⟨e, o, h, wr⟩ := ag
@[simp] theorem CR (id : Nat) : XExit.inBlock id K .normal ⟨e, o, h, wr⟩ = K .normal ⟨e, o, h, wr⟩ := ag
@[simp] theorem FP (id : Nat) : XExit.inBlock id K (.exit id) ⟨e, o, h, wr⟩ = K .normal ⟨e, o, h, wr⟩ := by simp [XExit.inBlock]
@[simp] theorem Jc (id : Nat) : XExit.inBlock id K .ret ⟨e, o, h, wr⟩ = K .ret ⟨e, o, h, wr⟩ := ag
end
attribute [simp] XCode.cuts XCode.inside
section
variable {P : Program} {e o : List (Nat × AV)} {h : List (List AV)} {wr : List Nat} {K : St -> List Nat -> Prop} {d : Option Nat} {ld : List Nat}
@[simp] theorem Mx (k : St -> Prop) : eX ⟨e, o, h, wr⟩ k = k ⟨e, o, h, wr⟩ := ag
@[simp] theorem LY : eG P [] ⟨e, o, h, wr⟩ ld K = K ⟨e, o, h, wr⟩ ld := ag
@[simp] theorem Kg (op : XOp) (r : List XOper) : eG P (⟨d, op, none⟩ :: r) ⟨e, o, h, wr⟩ ld K = aQ P d op ⟨e, o, h, wr⟩ fun s' l => eX s' fun s' => eG P r s' (l ++ ld) K := ag
@[simp] theorem Kh (op : XOp) (g : Nat) (w : Bool) (r : List XOper) (hg : St.look ⟨e, o, h, wr⟩ g = .v (.bool w)) : eG P (⟨d, op, some (g, w)⟩ :: r) ⟨e, o, h, wr⟩ ld K = aQ P d op ⟨e, o, h, wr⟩ fun s' l => eX s' fun s' => eG P r s' (l ++ ld) K := by
 rw [eG]; simp [du, hg, bL]
@[simp] theorem IZ (op : XOp) (g : Nat) (w : Bool) (r : List XOper) (hg : St.look ⟨e, o, h, wr⟩ g = .v (.bool (!w))) : eG P (⟨d, op, some (g, w)⟩ :: r) ⟨e, o, h, wr⟩ ld K = eX (St.puts ⟨e, o, h, wr⟩ d (.v undef) false) fun s' => eG P r s' ld K := by
 rw [eG]; cases w <;> simp [du, hg, bL]
@[simp] theorem I0 (op : XOp) (g : Nat) (w : Bool) (r : List XOper) (hg : St.look ⟨e, o, h, wr⟩ g = .v undef) : eG P (⟨d, op, some (g, w)⟩ :: r) ⟨e, o, h, wr⟩ ld K = eX (St.puts ⟨e, o, h, wr⟩ d (.v undef) false) fun s' => eG P r s' ld K := by
 rw [eG]; simp [du, hg, bL, undef]
@[simp] theorem PM (p : Prop) (a : AV) (w : Bool) (l : List Nat) : kJ ⟨p, a, w, l⟩ ⟨e, o, h, wr⟩ d K = (p /\ K (St.puts ⟨e, o, h, wr⟩ d a w) l) := ag
@[simp] theorem J4 (a_x : Operand) : aQ P d (.move a_x) ⟨e, o, h, wr⟩ K = aC P d (.move a_x) ⟨e, o, h, wr⟩ K := ag
@[simp] theorem Ft (a_x : Operand) : aQ P d (.assign a_x) ⟨e, o, h, wr⟩ K = aC P d (.assign a_x) ⟨e, o, h, wr⟩ K := ag
@[simp] theorem J5 (a_c a_a a_b : Operand) : aQ P d (.pick a_c a_a a_b) ⟨e, o, h, wr⟩ K = aC P d (.pick a_c a_a a_b) ⟨e, o, h, wr⟩ K := ag
@[simp] theorem IA (a_z : List AV) : aQ P d (.alloc a_z) ⟨e, o, h, wr⟩ K = aC P d (.alloc a_z) ⟨e, o, h, wr⟩ K := ag
@[simp] theorem LL (a_x : Operand) : aQ P d (.box a_x) ⟨e, o, h, wr⟩ K = aC P d (.box a_x) ⟨e, o, h, wr⟩ K := ag
@[simp] theorem IB (a_z : List AV) (a_parts : List (Nat × Nat × Operand)) : aQ P d (.build a_z a_parts) ⟨e, o, h, wr⟩ K = aC P d (.build a_z a_parts) ⟨e, o, h, wr⟩ K := ag
@[simp] theorem Ab (a_k a_len : Nat) (a_z : List AV) (a_parts : List (Nat × Operand)) : aQ P d (.buildSlice a_k a_len a_z a_parts) ⟨e, o, h, wr⟩ K = aC P d (.buildSlice a_k a_len a_z a_parts) ⟨e, o, h, wr⟩ K := ag
@[simp] theorem IG (a_x : Operand) : aQ P d (.load1 a_x) ⟨e, o, h, wr⟩ K = aC P d (.load1 a_x) ⟨e, o, h, wr⟩ K := ag
@[simp] theorem IH (a_n : Nat) (a_x : Operand) : aQ P d (.loadN a_n a_x) ⟨e, o, h, wr⟩ K = aC P d (.loadN a_n a_x) ⟨e, o, h, wr⟩ K := ag
@[simp] theorem IK (a_n : Nat) (a_p a_x : Operand) : aQ P d (.store a_n a_p a_x) ⟨e, o, h, wr⟩ K = aC P d (.store a_n a_p a_x) ⟨e, o, h, wr⟩ K := ag
@[simp] theorem CJ (a_x : Operand) : aQ P d (.nilCheck a_x) ⟨e, o, h, wr⟩ K = aC P d (.nilCheck a_x) ⟨e, o, h, wr⟩ K := ag
@[simp] theorem LK (a_op : BinOp) (a_x a_y : Operand) : aQ P d (.bin a_op a_x a_y) ⟨e, o, h, wr⟩ K = aC P d (.bin a_op a_x a_y) ⟨e, o, h, wr⟩ K := ag
@[simp] theorem LJ (a_neg : Bool) (a_x a_y : Operand) : aQ P d (.beq a_neg a_x a_y) ⟨e, o, h, wr⟩ K = aC P d (.beq a_neg a_x a_y) ⟨e, o, h, wr⟩ K := ag
@[simp] theorem II (a_neg : Bool) (a_x : Operand) : aQ P d (.nileq a_neg a_x) ⟨e, o, h, wr⟩ K = aC P d (.nileq a_neg a_x) ⟨e, o, h, wr⟩ K := ag
@[simp] theorem Fx (a_neg : Bool) (a_x : Operand) : aQ P d (.inileq a_neg a_x) ⟨e, o, h, wr⟩ K = aC P d (.inileq a_neg a_x) ⟨e, o, h, wr⟩ K := ag
@[simp] theorem LM (a_t : TypeId) (a_x : Operand) : aQ P d (.mkI a_t a_x) ⟨e, o, h, wr⟩ K = aC P d (.mkI a_t a_x) ⟨e, o, h, wr⟩ K := ag
@[simp] theorem FB (a_neg : Bool) (a_x : Operand) : aQ P d (.pnileq a_neg a_x) ⟨e, o, h, wr⟩ K = aC P d (.pnileq a_neg a_x) ⟨e, o, h, wr⟩ K := ag
@[simp] theorem MU (a_op : UnOp) (a_x : Operand) : aQ P d (.un a_op a_x) ⟨e, o, h, wr⟩ K = aC P d (.un a_op a_x) ⟨e, o, h, wr⟩ K := ag
@[simp] theorem LI (a_x : Operand) : aQ P d (.b2s a_x) ⟨e, o, h, wr⟩ K = aC P d (.b2s a_x) ⟨e, o, h, wr⟩ K := ag
@[simp] theorem J3 (a_f : Fn) (a_first a_cap : List Operand) : aQ P d (.mkfn a_f a_first a_cap) ⟨e, o, h, wr⟩ K = aC P d (.mkfn a_f a_first a_cap) ⟨e, o, h, wr⟩ K := ag
@[simp] theorem IJ (a_k : Nat) (a_x : Operand) (a_lo a_hi a_mx : Option Operand) : aQ P d (.slice a_k a_x a_lo a_hi a_mx) ⟨e, o, h, wr⟩ K = aC P d (.slice a_k a_x a_lo a_hi a_mx) ⟨e, o, h, wr⟩ K := ag
@[simp] theorem FD (a_x : Operand) (a_lo a_hi : Option Operand) : aQ P d (.sliceS a_x a_lo a_hi) ⟨e, o, h, wr⟩ K = aC P d (.sliceS a_x a_lo a_hi) ⟨e, o, h, wr⟩ K := ag
@[simp] theorem IE (a_off : Nat) (a_x : Operand) : aQ P d (.faddr a_off a_x) ⟨e, o, h, wr⟩ K = aC P d (.faddr a_off a_x) ⟨e, o, h, wr⟩ K := ag
@[simp] theorem IF (a_k : Nat) (a_x a_i : Operand) : aQ P d (.iaddr a_k a_x a_i) ⟨e, o, h, wr⟩ K = aC P d (.iaddr a_k a_x a_i) ⟨e, o, h, wr⟩ K := ag
@[simp] theorem JY (a_x a_i : Operand) : aQ P d (.idxS a_x a_i) ⟨e, o, h, wr⟩ K = aC P d (.idxS a_x a_i) ⟨e, o, h, wr⟩ K := ag
@[simp] theorem Ew (a_x : Operand) (a_i : Nat) : aQ P d (.extract a_x a_i) ⟨e, o, h, wr⟩ K = aC P d (.extract a_x a_i) ⟨e, o, h, wr⟩ K := ag
@[simp] theorem J0 (a_x : Operand) : aQ P d (.lenS a_x) ⟨e, o, h, wr⟩ K = aC P d (.lenS a_x) ⟨e, o, h, wr⟩ K := ag
@[simp] theorem JZ (a_x : Operand) : aQ P d (.lenL a_x) ⟨e, o, h, wr⟩ K = aC P d (.lenL a_x) ⟨e, o, h, wr⟩ K := ag
@[simp] theorem J1 (a_xs : List Operand) : aQ P d (.maxI a_xs) ⟨e, o, h, wr⟩ K = aC P d (.maxI a_xs) ⟨e, o, h, wr⟩ K := ag
@[simp] theorem J2 (a_xs : List Operand) : aQ P d (.minI a_xs) ⟨e, o, h, wr⟩ K = aC P d (.minI a_xs) ⟨e, o, h, wr⟩ K := ag
@[simp] theorem Fs (a_k a_bytes : Nat) (a_s a_x : Operand) : aQ P d (.append a_k a_bytes a_s a_x) ⟨e, o, h, wr⟩ K = aC P d (.append a_k a_bytes a_s a_x) ⟨e, o, h, wr⟩ K := ag
@[simp] theorem Ev (a_s a_x : Operand) : aQ P d (.appendS a_s a_x) ⟨e, o, h, wr⟩ K = aC P d (.appendS a_s a_x) ⟨e, o, h, wr⟩ K := ag
@[simp] theorem LN (a_x : Operand) : aQ P d (.s2b a_x) ⟨e, o, h, wr⟩ K = aC P d (.s2b a_x) ⟨e, o, h, wr⟩ K := ag
@[simp] theorem JX (a_f : FuncId) (a_args : List Operand) : aQ P d (.call a_f a_args) ⟨e, o, h, wr⟩ K = aC P d (.call a_f a_args) ⟨e, o, h, wr⟩ K := ag
@[simp] theorem IC (x : Operand) (args : List Operand) : aQ P d (.callv x args) ⟨e, o, h, wr⟩ K = fX P (St.get ⟨e, o, h, wr⟩ x) (args.map fun x => St.get ⟨e, o, h, wr⟩ x) ⟨e, o, h, wr⟩ d K := ag
@[simp] theorem Iu (f : Fn) (first cap args : List AV) : fX P (.fn f first cap) args ⟨e, o, h, wr⟩ d K = kG P (.fn f first cap) args ⟨e, o, h, wr⟩ d K := ag
@[simp] theorem Fy (a_ks : Option IntKind) (a_n : Nat) (a_one a_c : Bool) (a_z : List AV) (a_x a_k : Operand) : aQ P d (.lookup a_ks a_n a_one a_c a_z a_x a_k) ⟨e, o, h, wr⟩ K = aC P d (.lookup a_ks a_n a_one a_c a_z a_x a_k) ⟨e, o, h, wr⟩ K := ag
@[simp] theorem FA (a_neg : Bool) (a_x : Operand) : aQ P d (.mnileq a_neg a_x) ⟨e, o, h, wr⟩ K = aC P d (.mnileq a_neg a_x) ⟨e, o, h, wr⟩ K := ag
@[simp] theorem ID (a_x : Operand) : aQ P d (.entry a_x) ⟨e, o, h, wr⟩ K = aC P d (.entry a_x) ⟨e, o, h, wr⟩ K := ag
@[simp] theorem Ex (a_n : Nat) (a_one : Bool) : aQ P d (.makeMap a_n a_one) ⟨e, o, h, wr⟩ K = aC P d (.makeMap a_n a_one) ⟨e, o, h, wr⟩ K := ag
@[simp] theorem Fz (a_ks : Option IntKind) (a_n : Nat) (a_one : Bool) (a_m a_k : Operand) : aQ P d (.mapDel a_ks a_n a_one a_m a_k) ⟨e, o, h, wr⟩ K = aC P d (.mapDel a_ks a_n a_one a_m a_k) ⟨e, o, h, wr⟩ K := ag
@[simp] theorem FC (a_n : Nat) (a_one : Bool) (a_x : Operand) : aQ P d (.rangeM a_n a_one a_x) ⟨e, o, h, wr⟩ K = aC P d (.rangeM a_n a_one a_x) ⟨e, o, h, wr⟩ K := ag
@[simp] theorem Fw (k : Nat) : aQ P d (.emptyS k) ⟨e, o, h, wr⟩ K = aC P d (.emptyS k) ⟨e, o, h, wr⟩ K := ag
@[simp] theorem Fv (z : Value) (x : Operand) : aQ P d (.clearS z x) ⟨e, o, h, wr⟩ K = aC P d (.clearS z x) ⟨e, o, h, wr⟩ K := ag
@[simp] theorem Fu (n : Nat) (one : Bool) (x : Operand) : aQ P d (.clearM n one x) ⟨e, o, h, wr⟩ K = aC P d (.clearM n one x) ⟨e, o, h, wr⟩ K := ag
@[simp] theorem IN (n : Nat) (one : Bool) (x : Operand) : aC P d (.clearM n one x) ⟨e, o, h, wr⟩ K = ii ⟨e, o, h, wr⟩ n one d (St.get ⟨e, o, h, wr⟩ x) K := ag
@[simp] theorem Iv (n : Nat) (one : Bool) (i n' : Nat) (one' : Bool) : ii ⟨e, o, h, wr⟩ n one d (.mp i n' one') K = ((n' = n /\ one' = one) /\ ax (cp h n i) fun p => K (St.puts ⟨e, o, h.set i (aJ p.1 []), i :: wr⟩ d .any false) []) := ag
@[simp] theorem IP (z : Value) (x : Operand) : aC P d (.clearS z x) ⟨e, o, h, wr⟩ K = jc ⟨e, o, h, wr⟩ z d (St.get ⟨e, o, h, wr⟩ x) K := ag
@[simp] theorem JW (z : Value) (k : Nat) (nul : Option Bool) (room : Room) : jc ⟨e, o, h, wr⟩ z d (.sl k [] nul room) K = K (St.puts ⟨e, o, h, wr⟩ d .any false) [] := propext ⟨fun h => h.2, fun h => ⟨rfl, h⟩⟩
@[simp] theorem Iw (z : Value) (i off n : Nat) : jc ⟨e, o, h, wr⟩ z d (.bsl i off 1 n) K = ax (h[i]?) fun cs => off + n <= cs.length /\ K (St.puts ⟨e, o, h.set i (lay cs off (List.replicate n (cf z))), i :: wr⟩ d .any false) [] := propext ⟨fun h => h.2, fun h => ⟨rfl, h⟩⟩
@[simp] theorem IQ (k : Nat) : aC P d (.emptyS k) ⟨e, o, h, wr⟩ K = K (St.puts ⟨e, o, h, wr⟩ d (.sl k [] (some false) .exact) false) [] := ag
@[simp] theorem IS (ks : Option IntKind) (n : Nat) (one c : Bool) (z : List AV) (x k : Operand) : aC P d (.lookup ks n one c z x k) ⟨e, o, h, wr⟩ K = kJ (dL h ks n one c z (St.get ⟨e, o, h, wr⟩ x) (St.get ⟨e, o, h, wr⟩ k)) ⟨e, o, h, wr⟩ d K := ag
@[simp] theorem IV (neg : Bool) (x : Operand) : aC P d (.mnileq neg x) ⟨e, o, h, wr⟩ K = kJ (px neg (St.get ⟨e, o, h, wr⟩ x)) ⟨e, o, h, wr⟩ d K := ag
@[simp] theorem J8 (x : Operand) : aC P d (.entry x) ⟨e, o, h, wr⟩ K = kJ (gn h (St.get ⟨e, o, h, wr⟩ x)) ⟨e, o, h, wr⟩ d K := ag
@[simp] theorem FG (n : Nat) (one : Bool) : aC P d (.makeMap n one) ⟨e, o, h, wr⟩ K = K (St.puts ⟨e, o, h ++ [aJ 0 []], wr⟩ d (.mp h.length n one) false) [] := ag
@[simp] theorem IU (ks : Option IntKind) (n : Nat) (one : Bool) (m k x : Operand) : aC P d (.mapUpd ks n one m k x) ⟨e, o, h, wr⟩ K = il ⟨e, o, h, wr⟩ ks n one d (St.get ⟨e, o, h, wr⟩ m) (St.get ⟨e, o, h, wr⟩ k) (St.get ⟨e, o, h, wr⟩ x) K := ag
@[simp] theorem IT (ks : Option IntKind) (n : Nat) (one : Bool) (m k : Operand) : aC P d (.mapDel ks n one m k) ⟨e, o, h, wr⟩ K = ij ⟨e, o, h, wr⟩ ks n one d (St.get ⟨e, o, h, wr⟩ m) (St.get ⟨e, o, h, wr⟩ k) K := ag
@[simp] theorem IX (n : Nat) (one : Bool) (x : Operand) : aC P d (.rangeM n one x) ⟨e, o, h, wr⟩ K = io ⟨e, o, h, wr⟩ n one d (St.get ⟨e, o, h, wr⟩ x) K := ag
@[simp] theorem ET {α : Type} (a : α) (k : α -> Prop) : ax (some a) k = k a := ag
@[simp] theorem Iy (ks : Option IntKind) (n : Nat) (one : Bool) (i n' : Nat) (one' : Bool) (kv : Value) (x : AV) : il ⟨e, o, h, wr⟩ ks n one d (.mp i n' one') (.v kv) x K = ((n' = n /\ one' = one) /\ cn ks kv = true /\ ax (cp h n i) fun p => fa ks p.2 /\ ax (EK n one x) fun cs =>
  K (St.puts ⟨e, o, h.set i (aJ (AEnt.put kv p.1 cs p.2).2 (AEnt.put kv p.1 cs p.2).1), i :: wr⟩ d .any false) []) := ag
@[simp] theorem Ix (ks : Option IntKind) (n : Nat) (one : Bool) (i n' : Nat) (one' : Bool) (kv : Value) : ij ⟨e, o, h, wr⟩ ks n one d (.mp i n' one') (.v kv) K = ((n' = n /\ one' = one) /\ cn ks kv = true /\ ax (cp h n i) fun p => fa ks p.2 /\
  K (St.puts ⟨e, o, h.set i (aJ p.1 (AEnt.del kv p.2)), i :: wr⟩ d .any false) []) := ag
@[simp] theorem I1 (n : Nat) (one : Bool) (i n' : Nat) (one' : Bool) : io ⟨e, o, h, wr⟩ n one d (.mp i n' one') K = ((n' = n /\ one' = one) /\ ax (cp h n i) fun p => K (St.puts ⟨e, o, h ++ [nS p.1 p.1 []], wr⟩ d (.itr h.length (some i) n one) false) []) := ag
@[simp] theorem Iz (j i n : Nat) (one : Bool) (k : St -> Prop) : mP ⟨e, o, h, wr⟩ d (.itr j (some i) n one) k = (ax (sd h j) fun q => ax (cp h n i) fun p => (one = true -> 0 < n) /\ (∀ e ∈ p.2, e.born < q.1) /\ q.1 <= q.2.1 /\
  ((∀ e ∈ p.2, e.born ∈ q.2.2) -> k (St.puts ⟨e, o, h, wr⟩ d (.tup [.v (.bool false)]) false)) /\
  ∀ a ∈ p.2, a.born ∉ q.2.2 -> k (St.puts ⟨e, o, h.set j (nS q.1 p.1 (q.2.2 ++ [a.born])), j :: wr⟩ d (.tup [.v (.bool true), .v a.key, lF one a.cells]) false)) := ag
def Im {α : Type} (o : Option α) (f : α -> Val) : Val := match o with | some p => f p | none => .bad
@[simp] theorem LD {α : Type} (p : α) (f : α -> Val) : Im (some p) f = f p := ag
@[simp] theorem Il (ks : Option IntKind) (n : Nat) (one c : Bool) (z : List AV) (kv : Value) (i n' : Nat) (one' : Bool) : dL h ks n one c z (.mp i n' one') (.v kv) = Im (cp h n i) fun p => ⟨(n' = n /\ one' = one) /\ cn ks kv = true /\ fa ks p.2, found one c z (AEnt.find kv p.2 0), false, [i]⟩ := by
 unfold dL Im; dsimp only; cases cp h n i <;> rfl
@[simp] theorem LC (neg : Bool) (i n : Nat) (one : Bool) : px neg (.mp i n one) = .of (.v (.bool neg)) := ag
@[simp] theorem Ii (j i n : Nat) (one : Bool) : gn h (.itr j (some i) n one) = Im (sd h j) fun q => Im (cp h n i) fun p => Im (q.2.2.getLast?.bind fun b => AEnt.at_ b p.2) fun a => ⟨q.2.1 = p.1 /\ (one = true -> 0 < n), .tup [.v a.key, lF one a.cells], false, [j, i]⟩ := by
 unfold gn Im
 dsimp only
 cases sd h j with
 | none => rfl
 | some q => cases cp h n i with
  | none => rfl
  | some p => dsimp only; cases (q.2.2.getLast?.bind fun b => AEnt.at_ b p.2) <;> rfl
@[simp] theorem Ml (cs : List AV) : lF false cs = .agg (cs.map AV.unown) := ag
@[simp] theorem Mn (n : Nat) (x : AV) (hx : x.one = true) : EK n true x = some [x.unown] := by unfold EK; simp [hx]
@[simp] theorem Mm (n : Nat) (cs : List AV) (hx : cs.length = n) : EK n false (.agg cs) = some (cs.map AV.unown) := by unfold EK; simp [hx]
@[simp] theorem My (s t : Nat) (l : List Nat) : vK (nS s t l) = some (s, t, l) := A1 s t l
@[simp] theorem GO (b : ByteArray) : cn none (.string b) = true := ag
attribute [simp] cp sd
@[simp] theorem LW (x : Operand) : aC P d (.move x) ⟨e, o, h, wr⟩ K = kJ ⟨True, St.get ⟨e, o, h, wr⟩ x, St.mine ⟨e, o, h, wr⟩ x, []⟩ ⟨e, o, h, wr⟩ d K := ag
@[simp] theorem LX (c a b : Operand) : aC P d (.pick c a b) ⟨e, o, h, wr⟩ K = kJ (py (St.get ⟨e, o, h, wr⟩ c) (St.get ⟨e, o, h, wr⟩ a) (St.get ⟨e, o, h, wr⟩ b)) ⟨e, o, h, wr⟩ d K := ag
@[simp] theorem Kb (x : Operand) : aC P d (.load1 x) ⟨e, o, h, wr⟩ K = kJ (ep h (St.get ⟨e, o, h, wr⟩ x)) ⟨e, o, h, wr⟩ d K := ag
@[simp] theorem Kc (n : Nat) (x : Operand) : aC P d (.loadN n x) ⟨e, o, h, wr⟩ K = kJ (dG h n (St.get ⟨e, o, h, wr⟩ x)) ⟨e, o, h, wr⟩ d K := ag
@[simp] theorem J7 (z : List AV) (parts : List (Nat × Nat × Operand)) : aC P d (.build z parts) ⟨e, o, h, wr⟩ K = kJ (gl z (parts.map fun p => (p.1, p.2.1, St.get ⟨e, o, h, wr⟩ p.2.2))) ⟨e, o, h, wr⟩ d K := ag
@[simp] theorem Ey (x : Operand) : aC P d (.nilCheck x) ⟨e, o, h, wr⟩ K = kJ (wV (St.get ⟨e, o, h, wr⟩ x)) ⟨e, o, h, wr⟩ d K := ag
@[simp] theorem MY (op : BinOp) (x y : Operand) : aC P d (.bin op x y) ⟨e, o, h, wr⟩ K = kJ (wS op (St.get ⟨e, o, h, wr⟩ x) (St.get ⟨e, o, h, wr⟩ y)) ⟨e, o, h, wr⟩ d K := ag
@[simp] theorem MX (neg : Bool) (x y : Operand) : aC P d (.beq neg x y) ⟨e, o, h, wr⟩ K = kJ (wR neg (St.get ⟨e, o, h, wr⟩ x) (St.get ⟨e, o, h, wr⟩ y)) ⟨e, o, h, wr⟩ d K := ag
@[simp] theorem Kd (neg : Bool) (x : Operand) : aC P d (.nileq neg x) ⟨e, o, h, wr⟩ K = kJ (kF neg (St.get ⟨e, o, h, wr⟩ x)) ⟨e, o, h, wr⟩ d K := ag
@[simp] theorem IR (neg : Bool) (x : Operand) : aC P d (.inileq neg x) ⟨e, o, h, wr⟩ K = kJ (pt neg (St.get ⟨e, o, h, wr⟩ x)) ⟨e, o, h, wr⟩ d K := ag
@[simp] theorem M0 (t : TypeId) (x : Operand) : aC P d (.mkI t x) ⟨e, o, h, wr⟩ K = kJ (.of (.ifc t (St.get ⟨e, o, h, wr⟩ x).unown)) ⟨e, o, h, wr⟩ d K := ag
@[simp] theorem IW (neg : Bool) (x : Operand) : aC P d (.pnileq neg x) ⟨e, o, h, wr⟩ K = kJ (pz neg (St.get ⟨e, o, h, wr⟩ x)) ⟨e, o, h, wr⟩ d K := ag
@[simp] theorem MV (neg : Bool) (ts : List Nat) (x y : Operand) : aC P d (.aeq neg ts x y) ⟨e, o, h, wr⟩ K = kJ (wP neg ts (St.get ⟨e, o, h, wr⟩ x) (St.get ⟨e, o, h, wr⟩ y)) ⟨e, o, h, wr⟩ d K := ag
@[simp] theorem MW (x : Operand) : aC P d (.b2s x) ⟨e, o, h, wr⟩ K = kJ (wQ (St.get ⟨e, o, h, wr⟩ x)) ⟨e, o, h, wr⟩ d K := ag
@[simp] theorem PN (op : UnOp) (x : Operand) : aC P d (.un op x) ⟨e, o, h, wr⟩ K = kJ (Io op (St.get ⟨e, o, h, wr⟩ x)) ⟨e, o, h, wr⟩ d K := ag
@[simp] theorem LV (f : Fn) (first cap : List Operand) : aC P d (.mkfn f first cap) ⟨e, o, h, wr⟩ K = kJ ⟨True, .fn f (first.map fun x => (St.get ⟨e, o, h, wr⟩ x).unown) (cap.map fun x => (St.get ⟨e, o, h, wr⟩ x).unown), false, []⟩ ⟨e, o, h, wr⟩ d K := ag
@[simp] theorem Ke (k : Nat) (x : Operand) (lo hi mx : Option Operand) : aC P d (.slice k x lo hi mx) ⟨e, o, h, wr⟩ K = kJ (lZ k (St.get ⟨e, o, h, wr⟩ x) (fun n => cutAt ⟨e, o, h, wr⟩ n lo hi) (mx.map fun m => iN (St.get ⟨e, o, h, wr⟩ m))) ⟨e, o, h, wr⟩ d K := ag
@[simp] theorem IY (x : Operand) (lo hi : Option Operand) : aC P d (.sliceS x lo hi) ⟨e, o, h, wr⟩ K = kJ (jp (St.get ⟨e, o, h, wr⟩ x) (fun n => cutAt ⟨e, o, h, wr⟩ n lo hi)) ⟨e, o, h, wr⟩ d K := ag
@[simp] theorem J9 (off : Nat) (x : Operand) : aC P d (.faddr off x) ⟨e, o, h, wr⟩ K = kJ (kD off (St.get ⟨e, o, h, wr⟩ x)) ⟨e, o, h, wr⟩ d K := ag
@[simp] theorem Ka (k : Nat) (x i : Operand) : aC P d (.iaddr k x i) ⟨e, o, h, wr⟩ K = kJ (kE k (St.get ⟨e, o, h, wr⟩ x) (St.get ⟨e, o, h, wr⟩ i)) ⟨e, o, h, wr⟩ d K := ag
@[simp] theorem LP (x i : Operand) : aC P d (.idxS x i) ⟨e, o, h, wr⟩ K = kJ (pr (St.get ⟨e, o, h, wr⟩ x) (St.get ⟨e, o, h, wr⟩ i)) ⟨e, o, h, wr⟩ d K := ag
@[simp] theorem FF (x : Operand) (i : Nat) : aC P d (.extract x i) ⟨e, o, h, wr⟩ K = kJ (fp (St.get ⟨e, o, h, wr⟩ x) i) ⟨e, o, h, wr⟩ d K := ag
@[simp] theorem LR (x : Operand) : aC P d (.lenS x) ⟨e, o, h, wr⟩ K = kJ (pw (St.get ⟨e, o, h, wr⟩ x)) ⟨e, o, h, wr⟩ d K := ag
@[simp] theorem LQ (x : Operand) : aC P d (.lenL x) ⟨e, o, h, wr⟩ K = kJ (pu (St.get ⟨e, o, h, wr⟩ x)) ⟨e, o, h, wr⟩ d K := ag
@[simp] theorem LS (xs : List Operand) : aC P d (.maxI xs) ⟨e, o, h, wr⟩ K = kJ (wT (xs.mapM fun x => dA (St.get ⟨e, o, h, wr⟩ x))) ⟨e, o, h, wr⟩ d K := ag
@[simp] theorem LU (xs : List Operand) : aC P d (.minI xs) ⟨e, o, h, wr⟩ K = kJ (wU (xs.mapM fun x => dA (St.get ⟨e, o, h, wr⟩ x))) ⟨e, o, h, wr⟩ d K := ag
@[simp] theorem IM (n : Nat) (x : Operand) : aC P (some n) (.assign x) ⟨e, o, h, wr⟩ K = K (St.assigned ⟨e, o, h, wr⟩ n x) [] := ag
@[simp] theorem J6 (z : List AV) : aC P d (.alloc z) ⟨e, o, h, wr⟩ K = K (St.puts ⟨e, o, h ++ [z], wr⟩ d (.box h.length 0) false) [] := ag
@[simp] theorem MZ (x : Operand) : aC P d (.box x) ⟨e, o, h, wr⟩ K = LG (St.get ⟨e, o, h, wr⟩ x).cells ⟨e, o, h, wr⟩ d K := ag
@[simp] theorem JU (l : List AV) : LG (some l) ⟨e, o, h, wr⟩ d K = K (St.puts ⟨e, o, h ++ [l.map AV.unown], wr⟩ d (.box h.length 0) false) [] := ag
@[simp] theorem Cz (k len : Nat) (z : List AV) (parts : List (Nat × Operand)) : aC P d (.buildSlice k len z parts) ⟨e, o, h, wr⟩ K = Cx (fE (xF k z len) (parts.map fun p => (p.1 * k, k, St.get ⟨e, o, h, wr⟩ p.2))) k len ⟨e, o, h, wr⟩ d K := ag
@[simp] theorem Fq (cs : List AV) (k len : Nat) : Cx (some cs) k len ⟨e, o, h, wr⟩ d K = K (St.puts ⟨e, o, h, wr⟩ d (.sl k (bO k len cs) (some false) .exact) false) [] := ag
@[simp] theorem Kf (n : Nat) (p x : Operand) : aC P d (.store n p x) ⟨e, o, h, wr⟩ K = CA (St.storedAt ⟨e, o, h, wr⟩ n (St.get ⟨e, o, h, wr⟩ p) (St.get ⟨e, o, h, wr⟩ x)) d K := ag
@[simp] theorem FI : CA (some ⟨e, o, h, wr⟩) d K = K (St.puts ⟨e, o, h, wr⟩ d .any false) [] := ag
@[simp] theorem IL (k bytes : Nat) (a x : Operand) : aC P d (.append k bytes a x) ⟨e, o, h, wr⟩ K = bA ⟨e, o, h, wr⟩ k bytes d (St.get ⟨e, o, h, wr⟩ a) (St.get ⟨e, o, h, wr⟩ x) K := ag
@[simp] theorem Eu (k bytes k1 : Nat) (es : List (List AV)) (nul : Option Bool) (c : Id) (x : AV) (hn : nul ≠ some true) : bA ⟨e, o, h, wr⟩ k bytes d (.sl k1 es nul (.own c)) x K = ic ⟨e, o, h, wr⟩ k bytes d (.sl k1 es nul (.own c)) x K := by
 refine propext ⟨fun hh => ?_, .inl⟩
 rcases hh with hh | hh | hh
 ·exact hh
 ·obtain ⟨es2, hr, hne, hid, hm⟩ := hh
  rcases hm with hm | hm
  ·rcases hm.1 with h1 | ⟨_, _, h1⟩
   ·exact absurd h1 hn
   ·cases h1
  ·cases hm.2.2.1
 ·obtain ⟨hx, hm⟩ := hh
  rcases hm with ⟨_, h1, _⟩ | ⟨_, _, _, h1, _⟩ | ⟨_, _, h1, _⟩
  ·exact absurd h1 hn
  ·cases h1
  ·cases h1
theorem dm {k bytes : Nat} {a x : AV} (hh : ic ⟨e, o, h, wr⟩ k bytes d a x K) : bA ⟨e, o, h, wr⟩ k bytes d a x K := .inl hh
@[simp] theorem FE (a x : Operand) : aC P d (.appendS a x) ⟨e, o, h, wr⟩ K = gI ⟨e, o, h, wr⟩ d (St.get ⟨e, o, h, wr⟩ a) (St.get ⟨e, o, h, wr⟩ x) K := ag
@[simp] theorem M1 (x : Operand) : aC P d (.s2b x) ⟨e, o, h, wr⟩ K = zX ⟨e, o, h, wr⟩ d (St.get ⟨e, o, h, wr⟩ x) K := ag
@[simp] theorem PO (b : ByteArray) : zX ⟨e, o, h, wr⟩ d (.v (.string b)) K = (b.size <= 140737488355328 /\ K (St.puts ⟨e, o, h, wr⟩ d (.sl 1 (ak b.data.toList) none .no) false) []) := ag
@[simp] theorem LO (f : FuncId) (args : List Operand) : aC P d (.call f args) ⟨e, o, h, wr⟩ K = jK P f (args.map fun x => St.get ⟨e, o, h, wr⟩ x) ⟨e, o, h, wr⟩ d K := ag
@[simp] theorem JV (f : FuncId) (first cap args : List AV) : kG P (.fn (.func f) first cap) args ⟨e, o, h, wr⟩ d K = ((∀ c ∈ first ++ cap, c.idOf = none) /\ jK P f (first ++ args ++ cap) ⟨e, o, h, wr⟩ d K) := ag
@[simp] theorem Ir (k bytes n k1 k2 : Nat) (es es2 : List (List AV)) (nul nul2 : Option Bool) (room room2 : Room) : ic ⟨e, o, h, wr⟩ k bytes (some n) (.sl k1 es nul room) (.sl k2 es2 nul2 room2) K = (kx k1 k es room /\ (k2 = k \/ es2 = []) /\ (es.length + es2.length) * bytes <= 140737488355328 /\ es.length + es2.length <= 140737488355328 /\ K ((St.stripR ⟨e, o, h, wr⟩ room).putO n (.sl k (es ++ es2) none (.own (mW room n)))) []) := ag
@[simp] theorem Fp (n k1 : Nat) (es : List (List AV)) (nul : Option Bool) (room : Room) (t : ByteArray) : gI ⟨e, o, h, wr⟩ (some n) (.sl k1 es nul room) (.v (.string t)) K = (kx k1 1 es room /\ es.length + t.size <= 140737488355328 /\ K ((St.stripR ⟨e, o, h, wr⟩ room).putO n (.sl 1 (es ++ ak t.data.toList) none (.own (mW room n)))) []) := ag
@[simp] theorem Ki (op : XOp) : gp P ⟨d, op, none⟩ ⟨e, o, h, wr⟩ ld K = aC P d op ⟨e, o, h, wr⟩ fun s' l => eX s' fun s' => K s' (l ++ ld) := ag
@[simp] theorem I2 (op : XOp) (g : Nat) (w : Bool) (hg : St.look ⟨e, o, h, wr⟩ g = .v (.bool w)) : gp P ⟨d, op, some (g, w)⟩ ⟨e, o, h, wr⟩ ld K = aC P d op ⟨e, o, h, wr⟩ fun s' l => eX s' fun s' => K s' (l ++ ld) := by
 rw [gp]; simp [du, hg, bL]
@[simp] theorem FH (op : XOp) (g : Nat) (w : Bool) (hg : St.look ⟨e, o, h, wr⟩ g = .v (.bool (!w))) : gp P ⟨d, op, some (g, w)⟩ ⟨e, o, h, wr⟩ ld K = eX (St.puts ⟨e, o, h, wr⟩ d (.v undef) false) fun s' => K s' ld := by
 rw [gp]; cases w <;> simp [du, hg, bL]
@[simp] theorem LZ (op : XOp) : dn P ⟨d, op, none⟩ ⟨e, o, h, wr⟩ ld K = aC P d op ⟨e, o, h, wr⟩ fun s' l => fresh ld ⟨e, o, h, wr⟩ s' /\ eX s' fun s' => K s' (l ++ ld) := ag
@[simp] theorem Kj (op : XOp) (g : Nat) (w : Bool) (hg : St.look ⟨e, o, h, wr⟩ g = .v (.bool w)) : dn P ⟨d, op, some (g, w)⟩ ⟨e, o, h, wr⟩ ld K = aC P d op ⟨e, o, h, wr⟩ fun s' l => fresh ld ⟨e, o, h, wr⟩ s' /\ eX s' fun s' => K s' (l ++ ld) := by
 rw [dn]; simp [du, hg, bL]
@[simp] theorem I3 (op : XOp) (g : Nat) (w : Bool) (hg : St.look ⟨e, o, h, wr⟩ g = .v (.bool (!w))) : dn P ⟨d, op, some (g, w)⟩ ⟨e, o, h, wr⟩ ld K = eX (St.puts ⟨e, o, h, wr⟩ d (.v undef) false) fun s' => K s' ld := by
 rw [dn]; cases w <;> simp [du, hg, bL]
@[simp] theorem I4 (k : St -> Prop) : bu P .done ⟨e, o, h, wr⟩ ld k = k ⟨e, o, h, wr⟩ := ag
@[simp] theorem I7 (q : XOper) (t : XTree) (k : St -> Prop) : bu P (.take q t) ⟨e, o, h, wr⟩ ld k = gp P q ⟨e, o, h, wr⟩ ld fun s' ld' => bu P t s' ld' k := ag
@[simp] theorem I6 (q : XOper) (t : XTree) (k : St -> Prop) : bu P (.only q t) ⟨e, o, h, wr⟩ ld k = dn P q ⟨e, o, h, wr⟩ ld fun s' ld' => bu P t s' ld' k := ag
@[simp] theorem I5 (op : XOp) (k : St -> Prop) : bu P (.last ⟨d, op, none⟩) ⟨e, o, h, wr⟩ ld k = aC P d op ⟨e, o, h, wr⟩ fun s' _ => eX s' k := ag
@[simp] theorem Kk (q p : XOper) (t u : XTree) (k : St -> Prop) : bu P (.two q p t u) ⟨e, o, h, wr⟩ ld k = ((dn P q ⟨e, o, h, wr⟩ ld fun s' ld' => bu P t s' ld' k) /\ dn P p ⟨e, o, h, wr⟩ ld fun s' ld' => bu P u s' ld' k) := ag
@[simp] theorem MG (t : Nat) : St.look ⟨e, o, h, wr⟩ t = (match find o t with
  | some a => a
  | none => match find e t with
   | some a => a
   | none => .any) := ag
@[simp] theorem Mw (t : Nat) : St.get ⟨e, o, h, wr⟩ (.tmp t) = St.look ⟨e, o, h, wr⟩ t := ag
@[simp] theorem Jo (v : Value) : St.get ⟨e, o, h, wr⟩ (.const v) = G7 v := ag
@[simp] theorem KN (f : FuncId) : St.get ⟨e, o, h, wr⟩ (.func f) = .fn (.func f) [] [] := ag
@[simp] theorem La (t : Nat) : St.mine ⟨e, o, h, wr⟩ (.tmp t) = (find o t).isSome := ag
@[simp] theorem G5 (v : Value) : St.mine ⟨e, o, h, wr⟩ (.const v) = false := ag
@[simp] theorem JB (a : AV) (w : Bool) : St.puts ⟨e, o, h, wr⟩ none a w = ⟨e, o, h, wr⟩ := ag
@[simp] theorem Hl (n : Nat) (a : AV) : St.puts ⟨e, o, h, wr⟩ (some n) a false = ⟨(n, a) :: e, drop n o, h, wr⟩ := ag
@[simp] theorem JC (n : Nat) (a : AV) : St.puts ⟨e, o, h, wr⟩ (some n) a true = ⟨e, (n, a) :: drop n o, h, wr⟩ := ag
@[simp] theorem PE (n : Nat) (a : AV) : St.put ⟨e, o, h, wr⟩ n a = ⟨(n, a) :: e, drop n o, h, wr⟩ := ag
@[simp] theorem MM (n : Nat) (a : AV) : St.putO ⟨e, o, h, wr⟩ n a = ⟨e, (n, a) :: drop n o, h, wr⟩ := ag
@[simp] theorem MD (p : Id -> Bool) : St.kill ⟨e, o, h, wr⟩ p = ⟨e, fb p o, h, wr⟩ := ag
@[simp] theorem KH (t : Nat) : find [] t = none := ag
@[simp] theorem Jm (t : Nat) (a : AV) (r : List (Nat × AV)) : find ((t, a) :: r) t = some a := by simp [find]
@[simp] theorem GJ (k t : Nat) (a : AV) (r : List (Nat × AV)) (hk : k ≠ t) : find ((k, a) :: r) t = find r t := by simp [find, hk]
@[simp] theorem drop_nil (t : Nat) : drop t [] = [] := ag
@[simp] theorem Jj (t : Nat) (a : AV) (r : List (Nat × AV)) : drop t ((t, a) :: r) = drop t r := by simp [drop]
@[simp] theorem GB (k t : Nat) (a : AV) (r : List (Nat × AV)) (hk : k ≠ t) : drop t ((k, a) :: r) = (k, a) :: drop t r := by simp [drop, hk]
end
section
variable {c : Id} {x : Value} {i o k : Nat} {cs : List AV} {es : List (List AV)} {nul : Option Bool} {room : Room} {f : Fn} {a b : List AV}
@[simp] theorem MS : (AV.v x).unown = .v x := ag
@[simp] theorem JL : (AV.box i o).unown = .box i o := ag
@[simp] theorem JM {i off k n : Nat} : (AV.bsl i off k n).unown = .bsl i off k n := ag
@[simp] theorem LB : (AV.sl k es nul .no).unown = .sl k es nul .no := ag
@[simp] theorem Fo : (AV.sl k es nul .exact).unown = .sl k es nul .exact := ag
@[simp] theorem JO : (AV.sl k es nul (.own c)).unown = .sl k es nul .no := ag
@[simp] theorem JK : (AV.agg cs).unown = .agg cs := ag
@[simp] theorem Qh : (AV.v x).idOf = none := ag
@[simp] theorem Oi : (AV.box i o).idOf = none := ag
@[simp] theorem Oj {i off k n : Nat} : (AV.bsl i off k n).idOf = none := ag
@[simp] theorem PT : (AV.sl k es nul .no).idOf = none := ag
@[simp] theorem KP : (AV.sl k es nul .exact).idOf = none := ag
@[simp] theorem Om : (AV.sl k es nul (.own c)).idOf = some c := ag
@[simp] theorem PR : (AV.fn f a b).idOf = none := ag
@[simp] theorem Oh : (AV.agg cs).idOf = none := ag
@[simp] theorem On : (AV.tup cs).idOf = none := ag
@[simp] theorem MI : (AV.box i o).one = true := ag
@[simp] theorem Jf : (AV.agg cs).cells = some cs := ag
theorem cells_one {a : AV} (h : a.one = true) : a.cells = some [a] := by
 cases a with
 | agg cs => cases h
 | _ => simp [AV.cells, h]
@[simp] theorem Mj (h : x.oneCell' = true) : (AV.v x).cells = some [.v x] := cells_one h
@[simp] theorem Jg : (AV.box i o).cells = some [.box i o] := ag
@[simp] theorem Jh {i off k n : Nat} : (AV.bsl i off k n).cells = some [.bsl i off k n] := ag
@[simp] theorem KB : (AV.sl k es nul room).cells = some [.sl k es nul room] := ag
@[simp] theorem MJ (k : IntKind) (n : Int) : (Value.int k n).oneCell' = true := ag
@[simp] theorem Lc (b : Bool) : (Value.bool b).oneCell' = true := ag
@[simp] theorem ML (s : ByteArray) : (Value.string s).oneCell' = true := ag
@[simp] theorem Fe {d : Id} : (AV.sl k es nul (.own c)).relabel d = .sl k es nul (.own d) := ag
@[simp] theorem GU (p : Id -> Bool) : (AV.sl k es nul (.own c)).killed p = if p c then .sl k es nul .no else .sl k es nul (.own c) := ag
@[simp] theorem Ju (p : Id -> Bool) : (AV.sl k es nul .no).killed p = .sl k es nul .no := ag
@[simp] theorem HI {m : Nat} {a : AV} (h : a.idOf = none) : iu m a = a := by
 cases a with
 | sl k es nul room => cases room <;> first | rfl | cases h
 | _ => rfl
@[simp] theorem HQ {m n : Nat} : iu m (.sl k es nul (.own (.slot n))) = .sl k es nul (.own .res) := ag
@[simp] theorem Jv (a : AV) : LeqV c a a := gA c a
@[simp] theorem JT (a : AV) : weak a a := gH a
@[simp] theorem EN (i o k n k' : Nat) (es' : List (List AV)) (nul' : Option Bool) (room' : Room) : LeqV c (.bsl i o k n) (.sl k' es' nul' room') = (n = 0 /\ es' = [] /\ nul' ≠ some true /\ room' = .no) := ag
@[simp] theorem MF (k' : Nat) (es' : List (List AV)) (nul' : Option Bool) (room' : Room) : LeqV c (.sl k es nul room) (.sl k' es' nul' room') = (bT es es' /\ (k = k' \/ (es = [] /\ room = .exact)) /\ fK nul nul' /\ (kw c room room' \/ (nul = some true /\ newRoom c room'))) := ag
@[simp] theorem Pz (y : Value) (a : AV) : LeqV c a (.v y) = weak a (.v y) := ag
@[simp] theorem K0 (a : AV) : LeqV c a (.box i o) = weak a (.box i o) := ag
@[simp] theorem K1 {i off k n : Nat} (a : AV) : LeqV c a (.bsl i off k n) = weak a (.bsl i off k n) := ag
@[simp] theorem KZ (a : AV) : LeqV c a (.agg cs) = weak a (.agg cs) := ag
@[simp] theorem K3 (a : AV) : LeqV c a (.tup cs) = weak a (.tup cs) := ag
@[simp] theorem yS (n : Nat) {a : AV} (h : a.idOf = none) : nN n a a := by
 unfold nN
 cases a with
 | sl k es nul room =>
  refine ⟨dY _, .inl rfl, hG _, ?_⟩
  cases room <;> first | trivial | cases h
 | any => trivial
 | _ => exact gH _
@[simp] theorem Mr (n k' : Nat) (es' : List (List AV)) (nul' : Option Bool) (room' : Room) : nN n (.sl k es nul room) (.sl k' es' nul' room') = (bT es es' /\ (k = k' \/ (es = [] /\ room = .exact)) /\ fK nul nul' /\ nj n room room') := ag
@[simp] theorem KI (n : Nat) (a : AV) : nN n a (.agg cs) = weak a (.agg cs) := ag
@[simp] theorem yV {a b : AV} (h : b.idOf = none) : hand a b = b := by
 cases b with
 | sl k es nul room => cases room <;> first | rfl | cases h
 | _ => rfl
@[simp] theorem KO (k' : Nat) (es' : List (List AV)) (nul' : Option Bool) (d : Id) : hand (.sl k es nul (.own c)) (.sl k' es' nul' (.own d)) = .sl k' es' nul' (.own c) := ag
@[simp] theorem GM (k' : Nat) (es' : List (List AV)) (nul' : Option Bool) (d : Id) : hand (.sl k es nul .exact) (.sl k' es' nul' (.own d)) = .sl k' es' nul' (.own .res) := ag
end
@[simp] theorem Hf (x : Value) (b : AV) : lg true (.v x) b = .v x := by
 unfold lg
 split <;> simp_all [AV.unown]
@[simp] theorem EV (a : AV) (y : Value) : lg false a (.v y) = .v y := by
 unfold lg
 split <;> simp_all [AV.unown]
@[simp] theorem Hd (t x y : Bool) : lg t (.v (.bool x)) (.v (.bool y)) = .v (.bool (bif t then x else y)) := ag
@[simp] theorem Ij (h : List (List AV)) (i o : Nat) : ep h (.box i o) = (match h[i]? with
  | some cs => match cs[o]? with
   | some a => ⟨True, a, a.idOf.isSome, [i]⟩
   | none => .bad
  | none => .bad) := rfl
@[simp] theorem JQ (h : List (List AV)) (c : AV) (r : List AV) : ep h (.ro (c :: r)) = ⟨True, c.unown, false, []⟩ := ag
@[simp] theorem Ik (h : List (List AV)) (n i o : Nat) : dG h n (.box i o) = (match h[i]? with
  | some cs => ⟨o + n <= cs.length, .agg (((cs.drop o).take n).map AV.unown), false, [i]⟩
  | none => .bad) := rfl
@[simp] theorem JR (h : List (List AV)) {n : Nat} {cs : List AV} (hl : cs.length = n) (hu : cs.map AV.unown = cs) : dG h n (.ro cs) = ⟨True, .agg cs, false, []⟩ := by
 unfold dG
 subst hl
 simp [hu]
@[simp] theorem G6 (n : Option Bool) : fK n none := by simp [fK]
@[simp] theorem E5 (p : Id -> Bool) : fb p [] = [] := ag
@[simp] theorem DT (p : Id -> Bool) (k : Nat) (a : AV) (r : List (Nat × AV)) : fb p ((k, a) :: r) = (k, a.killed p) :: fb p r := ag
@[simp] theorem PF (n : Nat) (x : Value) : (AV.v x).lt n = True := ag
@[simp] theorem Lf (n : Nat) : AV.any.lt n = True := ag
@[simp] theorem Lg (n i o : Nat) : (AV.box i o).lt n = (i < n) := ag
@[simp] theorem Lh (n i o k m : Nat) : (AV.bsl i o k m).lt n = (i < n) := ag
@[simp] theorem Lk (n i : Nat) (r : Loop) (c : Code) (a : List AV) : (AV.yld i r c a).lt n = (i < n /\ cg n a) := ag
@[simp] theorem MP (n : Nat) (cs : List AV) : (AV.ro cs).lt n = cg n cs := ag
@[simp] theorem DU (n k : Nat) (es : List (List AV)) (nul : Option Bool) (room : Room) : (AV.sl k es nul room).lt n = aR n es := ag
@[simp] theorem MN (n : Nat) (f : Fn) (a b : List AV) : (AV.fn f a b).lt n = (cg n a /\ cg n b) := ag
@[simp] theorem Le (n : Nat) (cs : List AV) : (AV.agg cs).lt n = cg n cs := ag
@[simp] theorem Lj (n : Nat) (cs : List AV) : (AV.tup cs).lt n = cg n cs := ag
@[simp] theorem JE (n : Nat) : cg n [] = True := ag
@[simp] theorem Hu (n : Nat) (a : AV) (r : List AV) : cg n (a :: r) = (a.lt n /\ cg n r) := ag
@[simp] theorem Ht (n : Nat) : aR n [] = True := ag
@[simp] theorem E9 (n : Nat) (a : List AV) (r : List (List AV)) : aR n (a :: r) = (cg n a /\ aR n r) := ag
@[simp] theorem JD {α : Type} (cs : List α) (o : Nat) : lay cs o [] = cs := ag
@[simp] theorem Hp {α : Type} (cs : List α) (o : Nat) (a : α) (r : List α) : lay cs o (a :: r) = lay (cs.set o a) (o + 1) r := ag
@[simp] theorem E0 (cs : List AV) : fE cs [] = some cs := ag
@[simp] theorem DQ (cs : List AV) (off size : Nat) (a : AV) (r : List (Nat × Nat × AV)) : fE cs ((off, size, a) :: r) = (match a.cells with | some l => if l.length = size /\ off + size <= cs.length then fE (lay cs off (l.map AV.unown)) r else none | none => none) := ag
@[simp] theorem DO (k : Nat) (l : List AV) : bO k 0 l = [] := ag
@[simp] theorem sq (k n : Nat) (l : List AV) : bO k (n + 1) l = l.take k :: bO k n (l.drop k) := ag
@[simp] theorem Hw (k : Nat) (z : List AV) : xF k z 0 = [] := ag
@[simp] theorem Hv (k n : Nat) (z : List AV) : xF k z (n + 1) = z ++ xF k z n := ag
def zc (x : Int) (r : List Int) : Int := r.foldl (fun m y => if y < m then y else m) x
@[simp] theorem Fb (x : Int) (r : List Int) : Bc (x :: r) = some (zc x r) := ag
def tV (x : Int) (r : List Int) : Int := r.foldl (fun m y => if y > m then y else m) x
@[simp] theorem Fa (x : Int) (r : List Int) : Bb (x :: r) = some (tV x r) := ag
@[simp] theorem Dy {n : Int} : ∀ (x : Int) (r : List Int), tV x r <= n ↔ x <= n /\ ∀ y ∈ r, y <= n
 | x, [] => by simp [tV]
 | x, y :: r => by
  have ih := Dy (n := n) (if y > x then y else x) r
  have e : tV x (y :: r) = tV (if y > x then y else x) r := rfl
  rw [e, ih, List.forall_mem_cons]
  split
  ·exact ⟨fun h => ⟨by omega, h⟩, fun h => h.2⟩
  ·exact ⟨fun h => ⟨h.1, by omega, h.2⟩, fun h => ⟨h.1, h.2.2⟩⟩
@[simp] theorem Hm  : mU [] [] [] = some true := ag
@[simp] theorem EZ (t : Nat) (ts : List Nat) (a b : AV) (r q : List AV) : mU (t :: ts) (a :: r) (b :: q) = (match KD t a b, mU ts r q with | some x, some y => some (x && y) | _, _ => none) := ag
@[simp] theorem EY (s : St) : np s [] = True := ag
@[simp] theorem DN (s : St) (x : XOp) (r : List XOp) : np s (x :: r) = ((bH s x).ok /\ np s r) := ag
@[simp] theorem DP (own : Bool) (i : Nat) : ck own i [] = [] := ag
@[simp] theorem CH (own : Bool) (i : Nat) (a : AV) (r : List AV) : ck own i (a :: r) = (bif a.idOf.isSome == own then (i, a) :: ck own (i + 1) r else ck own (i + 1) r) := ag
@[simp] theorem JH (k k' : Nat) (es es' : List (List AV)) (nul nul' : Option Bool) (room room' : Room) : weak (.sl k es nul room) (.sl k' es' nul' room') = ((k = k' \/ (es = [] /\ room' = .no)) /\ bT es es' /\ fK nul nul' /\ (room' = .no \/ room' = room)) := ag
@[simp] theorem Hx (cs ds : List AV) : weak (.agg cs) (.agg ds) = cI cs ds := ag
@[simp] theorem Hy (cs ds : List AV) : weak (.tup cs) (.tup ds) = cI cs ds := ag
@[simp] theorem Ll (x y : Value) : weak (.v x) (.v y) = (x = y) := ag
@[simp] theorem Li (n : Nat) (t : TypeId) (a : AV) : (AV.ifc t a).lt n = a.lt n := ag
@[simp] theorem JF (k i n : Nat) (o : Bool) : (AV.itr i none n o).lt k = (i < k /\ True) := ag
@[simp] theorem JG (k i j n : Nat) (o : Bool) : (AV.itr i (some j) n o).lt k = (i < k /\ j < k) := ag
@[simp] theorem MO (k i n : Nat) (o : Bool) : (AV.mp i n o).lt k = (i < k) := ag
@[simp] theorem DV (a b : AV) (r q : List AV) : cI (a :: r) (b :: q) = (weak a b /\ cI r q) := ag
@[simp] theorem CI (a b : List AV) (r q : List (List AV)) : bT (a :: r) (b :: q) = (cI a b /\ bT r q) := ag
@[simp] theorem Hq (i j : Nat) : iP i j [] [] = True := ag
@[simp] theorem E6 (i j : Nat) (a b : AV) (r q : List AV) : iP i j (a :: r) (b :: q) = (LeqV (.cell i j) a b /\ iP i (j + 1) r q) := ag
@[simp] theorem Hs (s : St) (n : Nat) : vP s n [] = True := ag
@[simp] theorem E8 (s : St) (n : Nat) (p : Nat × AV) (r : List (Nat × AV)) : vP s n (p :: r) = ((LeqV (.slot p.1) (s.look p.1) p.2 /\ p.2.lt n) /\ vP s n r) := ag
@[simp] theorem Hr (s : St) (n : Nat) : vO s n [] = True := ag
@[simp] theorem E7 (s : St) (n : Nat) (p : Nat × AV) (r : List (Nat × AV)) : vO s n (p :: r) = ((LeqV (.slot p.1) (s.look p.1) p.2 /\ p.2.idOf = none /\ p.2.lt n) /\ vO s n r) := ag
@[simp] theorem Hn (i : Nat) : gv i [] [] = True := ag
@[simp] theorem E1 (i : Nat) (a b : AV) (r q : List AV) : gv i (a :: r) (b :: q) = (nN i a b /\ gv (i + 1) r q) := ag
@[simp] theorem E3  : bF [] [] = [] := ag
@[simp] theorem DR (a b : AV) (r q : List AV) : bF (a :: r) (b :: q) = hand a b :: bF r q := ag
@[simp] theorem E4  : aZ [] = [] := ag
@[simp] theorem DS (a : AV) (r : List AV) : aZ (a :: r) = (match a.idOf with | some c => if c.isCell then aZ r else c :: aZ r | none => aZ r) := ag
attribute [simp] St.called St.calledU St.assigned St.stored St.storedAt St.strip St.stripR kx
attribute [simp] G7 cf
attribute [simp] iN dA cutAt py gl wV Ai Ah wS wR kF pz pt KD wP wQ fo Io rn rp lZ jp kD kE pr fp sI pw pu wT wU bH
attribute [simp] GW xr me enter kw nj be Id.isCell Id.isNew vN mW newRoom St.sorted St.calm om yn ol
attribute [simp] eJ bD dY ft hG jW cV fc fresh Val.of Val.bad
section
variable {i : Nat} {r : Loop} {c : Code} {l : List AV}
@[simp] theorem JN {im : Option Nat} {n : Nat} {o : Bool} : (AV.itr i im n o).unown = .itr i im n o := rfl
@[simp] theorem Ol {im : Option Nat} {n : Nat} {o : Bool} : (AV.itr i im n o).idOf = none := rfl
@[simp] theorem MK {im : Option Nat} {n : Nat} {o : Bool} : (AV.itr i im n o).one = true := rfl
@[simp] theorem K2 {d : Id} {im : Option Nat} {n : Nat} {o : Bool} (a : AV) : LeqV d a (.itr i im n o) = weak a (.itr i im n o) := rfl
@[simp] theorem KJ (k : Nat) {im : Option Nat} {n : Nat} {o : Bool} (a : AV) : nN k a (.itr i im n o) = weak a (.itr i im n o) := rfl
@[simp] theorem LA {n : Nat} {o : Bool} : (AV.mp i n o).unown = .mp i n o := rfl
@[simp] theorem PS {n : Nat} {o : Bool} : (AV.mp i n o).idOf = none := rfl
@[simp] theorem PD {n : Nat} {o : Bool} : (AV.mp i n o).one = true := rfl
@[simp] theorem KA {n : Nat} {o : Bool} : (AV.mp i n o).cells = some [.mp i n o] := rfl
@[simp] theorem ME {d : Id} {n : Nat} {o : Bool} (a : AV) : LeqV d a (.mp i n o) = weak a (.mp i n o) := rfl
@[simp] theorem Mq (k : Nat) {n : Nat} {o : Bool} (a : AV) : nN k a (.mp i n o) = weak a (.mp i n o) := rfl
@[simp] theorem JP : (AV.yld i r c l).unown = .yld i r c l := rfl
@[simp] theorem Oo : (AV.yld i r c l).idOf = none := rfl
@[simp] theorem K4 {d : Id} (a : AV) : LeqV d a (.yld i r c l) = weak a (.yld i r c l) := rfl
@[simp] theorem KK (n : Nat) (a : AV) : nN n a (.yld i r c l) = weak a (.yld i r c l) := rfl
theorem af {L : Nat} {H : List (List AV)} (h : H.length = L) : iQ 0 (H.take L) H := by
 rw [<- h, List.take_length]; exact eJ _ _
end
section
variable {P : Program} {m : Frm}
theorem bg {α : Type} {o : Option α} {k k' : α -> Prop} (hk : ∀ a, k a -> k' a) (h : ax o k) : ax o k' := by
 cases o with
 | none => exact h
 | some a => exact hk a h
theorem xc {s : St} {d : Option Nat} {v : AV} {K K' : St -> Prop} (hK : ∀ s, K s -> K' s) (h : mP s d v K) : mP s d v K' := by
 unfold mP at h ⊢
 split at h
 ·exact hK _ h
 ·exact bg (fun q h => bg (fun p h => ⟨h.1, h.2.1, h.2.2.1, fun hh => hK _ (h.2.2.2.1 hh), fun a ha hn => hK _ (h.2.2.2.2 a ha hn)⟩) h) h
 ·exact h.elim
theorem pG {f : FuncId} {args : List AV} {s : St} {d : Option Nat} {K K' : St -> List Nat -> Prop} (hK : ∀ s l, K s l -> K' s l) (h : jK P f args s d K) : jK P f args s d K' := by
 rcases h with h | h
 ·obtain ⟨bs, r, h', wr, h1, h2, h3, h4⟩ := h
  exact .inl ⟨bs, r, h', wr, h1, h2, h3, hK _ _ h4⟩
 ·obtain ⟨bs, r, h', wr, hh, h0, h1, h2, h3, h4⟩ := h
  exact .inr ⟨bs, r, h', wr, hh, h0, h1, h2, h3, hK _ _ h4⟩
theorem dZ {d : Option Nat} {op : XOp} {s : St} {K K' : St -> List Nat -> Prop} (hK : ∀ s l, K s l -> K' s l) (h : aC P d op s K) : aC P d op s K' := by
 cases op with
 | assign x => cases d with
  | none => exact h
  | some d => exact hK _ _ h
 | alloc z => exact hK _ _ h
 | box x => exact bg (fun _ h => hK _ _ h) h
 | buildSlice k len z parts => exact bg (fun _ h => hK _ _ h) h
 | store n p x => exact bg (fun _ h => hK _ _ h) h
 | append k b a x => exact jI hK h
 | appendN k b x =>
  rcases h with h | h
  ·exact .inl (jI hK h)
  ·refine .inr ?_
   unfold ig at h ⊢
   split at h
   ·exact ⟨h.1, h.2.1, h.2.2.1, h.2.2.2.1, h.2.2.2.2.1, hK _ _ h.2.2.2.2.2⟩
   ·exact h.elim
 | s2b x =>
  unfold aC zX at h ⊢
  dsimp only at h ⊢
  split at h
  ·exact ⟨h.1, hK _ _ h.2⟩
  ·exact h.elim
 | appendS a x =>
  unfold aC gI at h ⊢
  dsimp only at h ⊢
  split at h
  ·exact ⟨h.1, h.2.1, hK _ _ h.2.2⟩
  ·exact h.elim
 | makeMap n one => exact hK _ _ h
 | emptyS k => exact hK _ _ h
 | clearM n one x =>
  unfold aC ii at h ⊢
  dsimp only at h ⊢
  split at h
  ·exact hK _ _ h
  ·exact ⟨h.1, bg (fun _ h => hK _ _ h) h.2⟩
  ·exact h.elim
 | clearS z x =>
  unfold aC jc at h ⊢
  dsimp only at h ⊢
  split at h
  ·exact ⟨h.1, hK _ _ h.2⟩
  ·exact ⟨h.1, bg (fun _ h => ⟨h.1, hK _ _ h.2⟩) h.2⟩
  ·exact h.elim
 | makeS k bytes c =>
  unfold aC sO at h ⊢
  dsimp only at h ⊢
  split at h
  ·exact ⟨h.1, h.2.1, h.2.2.1, hK _ _ h.2.2.2⟩
  ·exact h.elim
 | makeB k bytes z c =>
  unfold aC sN at h ⊢
  dsimp only at h ⊢
  split at h
  ·exact ⟨h.1, h.2.1, h.2.2.1, hK _ _ h.2.2.2⟩
  ·exact h.elim
 | mapUpd ks n one m k x =>
  unfold aC il at h ⊢
  dsimp only at h ⊢
  split at h
  ·exact ⟨h.1, h.2.1, bg (fun _ h => ⟨h.1, bg (fun _ h => hK _ _ h) h.2⟩) h.2.2⟩
  ·exact h.elim
 | mapDel ks n one m k =>
  unfold aC ij at h ⊢
  dsimp only at h ⊢
  split at h
  ·exact ⟨h.1, hK _ _ h.2⟩
  ·exact ⟨h.1, h.2.1, bg (fun _ h => ⟨h.1, hK _ _ h.2⟩) h.2.2⟩
  ·exact h.elim
 | rangeM n one x =>
  unfold aC io at h ⊢
  dsimp only at h ⊢
  split at h
  ·exact hK _ _ h
  ·exact ⟨h.1, bg (fun _ h => hK _ _ h) h.2⟩
  ·exact h.elim
 | call f args => exact pG hK h
 | callv x args =>
  unfold aC kG at h ⊢
  dsimp only at h ⊢
  split at h
  ·exact ⟨h.1, pG hK h.2⟩
  ·exact h.elim
 | _ => exact ⟨h.1, hK _ _ h.2⟩
theorem zW {d : Option Nat} {op : XOp} {s : St} {K K' : St -> List Nat -> Prop} (hK : ∀ s l, K s l -> K' s l) (h : aQ P d op s K) : aQ P d op s K' := by
 cases op with
 | callv x args =>
  unfold aQ fX at h ⊢
  dsimp only at h ⊢
  split at h
  ·rename_i i r c slots hg
   obtain ⟨bs, res, h', wr, h1, h2, h3, h4⟩ := h
   exact ⟨bs, res, h', wr, h1, h2, h3, hK _ _ h4⟩
  ·exact dZ (op := .callv x args) hK h
 | _ => rw [kH (fun y args e => by cases e)] at h ⊢; exact dZ hK h
theorem cv {α : Option Bool} {A A' B B' : Prop} (ha : A -> A') (hb : B -> B') (h : bL α A B) : bL α A' B' := by
 unfold bL at h ⊢
 split at h
 ·exact ha h
 ·exact hb h
 ·exact h
theorem jq : ∀ {xs : List XOper} {s : St} {ld : List Nat} {K K' : St -> List Nat -> Prop}, (∀ s l, K s l -> K' s l) -> eG P xs s ld K -> eG P xs s ld K'
 | [], s, ld, K, K', hK, h => hK _ _ h
 | o :: r, s, ld, K, K', hK, h => by
  unfold eG at h ⊢
  exact cv (fun h => zW (fun s l h => jq hK h) h) (fun h => jq hK h) h
theorem bj : ∀ {t : XTree} {s : St} {ld : List Nat} {K K' : St -> Prop}, (∀ s, K s -> K' s) -> bu P t s ld K -> bu P t s ld K'
 | .done, s, ld, K, K', hK, h => hK _ h
 | .take o t, s, ld, K, K', hK, h => by
  unfold bu gp at h ⊢
  exact cv (fun h => dZ (fun s l h => bj hK h) h) (fun h => bj hK h) h
 | .only o t, s, ld, K, K', hK, h => by
  unfold bu dn at h ⊢
  exact cv (fun h => dZ (fun s l h => ⟨h.1, bj hK h.2⟩) h) (fun h => bj hK h) h
 | .last o, s, ld, K, K', hK, h => by
  unfold bu at h ⊢
  exact cv (fun h => dZ (fun s l h => hK _ h) h) (fun h => hK _ h) h
 | .two o p t u, s, ld, K, K', hK, h => by
  unfold bu dn at h ⊢
  exact ⟨cv (fun h => dZ (fun s l h => ⟨h.1, bj hK h.2⟩) h) (fun h => bj hK h) h.1, cv (fun h => dZ (fun s l h => ⟨h.1, bj hK h.2⟩) h) (fun h => bj hK h) h.2⟩
 | .alt o t u, s, ld, K, K', hK, h => by
  unfold bu dn at h ⊢
  exact ⟨cv (fun h => dZ (fun s l h => ⟨h.1, bj hK h.2⟩) h) (fun h => bj hK h) h.1, bj hK h.2⟩
theorem jn {k k' : St -> Prop} {K K' : XExit -> St -> Prop} (hk : ∀ s, k s -> k' s) (hK : ∀ e s, K e s -> K' e s) : ∀ e s, XExit.then k K e s -> XExit.then k' K' e s
 | .normal, s, h => hk s h
 | .exit _, s, h => hK _ s h
 | .ret, s, h => hK _ s h
theorem cJ : ∀ {c : XCode} {s : St} {K K' : XExit -> St -> Prop}, (∀ e s, K e s -> K' e s) -> dH P m c s K -> dH P m c s K'
 | .skip, s, K, K', hK, h => hK _ _ h
 | .ops xs, s, K, K', hK, h => jq (fun s _ h => hK _ s h) h
 | .draws t, s, K, K', hK, h => bj (fun s h => hK _ s h) h
 | .seq a b, s, K, K', hK, h => cJ (c := a) (jn (fun s h => cJ (c := b) hK h) hK) h
 | .cond x a b, s, K, K', hK, h => by
  unfold dH ry at h ⊢
  split at h
  ·exact ⟨fun e => cJ hK (h.1 e), fun e => cJ hK (h.2 e)⟩
  ·exact h.elim
 | .block id a, s, K, K', hK, h => by
  refine cJ (c := a) (fun e s h => ?_) h
  cases e with
  | normal => exact hK _ _ h
  | ret => exact hK _ _ h
  | exit i =>
   unfold XExit.inBlock at h ⊢
   dsimp only at h ⊢
   split at h
   ·rename_i e; rw [if_pos e]; exact hK _ _ h
   ·rename_i e; rw [if_neg e]; exact hK _ _ h
 | .loop a, s, K, K', hK, h => by
  obtain ⟨D, inv, μ, h1, h2⟩ := h
  exact ⟨D, inv, μ, h1, fun d => cJ (c := a) (jn (fun s h => h) hK) (h2 d)⟩
 | .range x ps a b, s, K, K', hK, h => by
  obtain ⟨h1, h2, g, cap, n, xs, all, R, e, H, wr, h3, E, q1, q2, q3, q4, q5, q6, q7, q8, q9, q10, q11⟩ := h
  exact ⟨h1, h2, g, cap, n, xs, all, R, e, H, wr, h3, E, q1, q2, q3, q4, q5, q6, q7, q8, q9, fun ha => hK _ _ (q10 ha), fun ha => ⟨(q11 ha).1, hK _ _ (q11 ha).2⟩⟩
 | .exit id, s, K, K', hK, h => hK _ _ h
 | .ret, s, K, K', hK, h => hK _ _ h
 | .cut a, s, K, K', hK, h => by
  obtain ⟨s2, h1, h2⟩ := h
  exact ⟨s2, h1, cJ (c := a) hK h2⟩
 | .mark a, s, K, K', hK, h => cJ (c := a) hK h
 | .nexts d x xs, s, K, K', hK, h => xc (fun s h => jq (fun s _ h => hK _ s h) h) h
 | .sortr t d e g, s, K, K', hK, h => by
  obtain ⟨us, us', k, nul, room, h1, h2, h3, h4, h5, h6⟩ := h
  exact ⟨us, us', k, nul, room, h1, h2, h3, h4, h5, hK _ _ h6⟩
theorem gJ {a b : XCode} {s : St} {K : XExit -> St -> Prop} (s2 : St) (ha : dH P m a s (XExit.then (fun s' => Leq m.h.length s' s2) K)) (hb : dH P m b s2 K) : dH P m (.mark (.seq a (.cut b))) s K :=
 cJ (c := a) (jn (fun _ h => ⟨s2, .inl h, hb⟩) fun _ _ h => h) ha
theorem pH {a b : XCode} {s : St} {K : XExit -> St -> Prop} (i : Nat) (cs : List AV) (s2 : St) (hi : m.h.length <= i) (hne : frzOk cs) (ha : dH P m a s (XExit.then (fun s' => s'.heap[i]? = some cs /\ Leq m.h.length (s'.frz i cs) s2) K)) (hb : dH P m b s2 K) : dH P m (.mark (.seq a (.cut b))) s K :=
 cJ (c := a) (jn (fun _ h => ⟨s2, .inr ⟨i, cs, hi, h.1, hne, h.2⟩, hb⟩) fun _ _ h => h) ha
theorem LH {a : XCode} {s : St} {K : XExit -> St -> Prop} (h : dH P m a s K) : dH P m (.mark a) s K := h
end
def al {α : Type} (f : α -> List AV) (l : List α) : List (List AV) := l.map f
section
variable {α : Type} (f : α -> List AV)
@[simp] theorem Mo : al f [] = [] := rfl
@[simp] theorem de (x : α) (l : List α) : al f (x :: l) = f x :: al f l := rfl
@[simp] theorem GD (l m : List α) : al f (l ++ m) = al f l ++ al f m := by simp [al]
@[simp] theorem GG (l : List α) : (al f l).length = l.length := by simp [al]
@[simp] theorem EL (l : List α) (j : Nat) (hj : j < (al f l).length) : (al f l)[j] = f (l[j]'(by simpa using hj)) := by simp [al]
@[simp] theorem GF (l : List α) : al f l = [] ↔ l = [] := by simp [al]
theorem AH (l : List α) (n : Nat) : (al f l).take n = al f (l.take n) := by simp [al]
theorem AG (l : List α) (n : Nat) : (al f l).drop n = al f (l.drop n) := by simp [al]
theorem di (n : Nat) (h : ∀ x, cg n (f x)) : ∀ l : List α, aR n (al f l)
 | [] => trivial
 | x :: l => ⟨h x, di n h l⟩
theorem eN {l : List α} {j : Nat} (hj : j < l.length) : l.take (j + 1) = l.take j ++ [l[j]] := by
 rw [List.take_add_one, Q9 hj]; rfl
end
@[simp] theorem FT : ak [] = [] := rfl
@[simp] theorem EE (x : UInt8) (l : List UInt8) : ak (x :: l) = [.v (.int .u8 (x.toNat : Int))] :: ak l := rfl
@[simp] theorem jw (l m : List UInt8) : ak (l ++ m) = ak l ++ ak m := by simp [ak]
@[simp] theorem pN (l : List UInt8) : (ak l).length = l.length := by simp [ak]
@[simp] theorem CD (l : List UInt8) : ak l = [] ↔ l = [] := by simp [ak]
theorem te (l : List UInt8) (n : Nat) : (ak l).take n = ak (l.take n) := by simp [ak]
theorem td (l : List UInt8) (n : Nat) : (ak l).drop n = ak (l.drop n) := by simp [ak]
def aN (n : Int) : List AV := [.v (.int .i64 n)]
def gh (s : List UInt8) : List AV := [.v (.string (ah s))]
@[simp] theorem jl (xs : List UInt8) : (ah xs).data.toList = xs := by simp [ah]
@[simp] theorem MR (xs : List UInt8) : (ah xs).size = xs.length := cY xs
@[simp] theorem JI (xs : List UInt8) : (ah xs).toList = xs := uD xs
@[simp] theorem Lt (xs ys : List UInt8) : ah xs ++ ah ys = ah (xs ++ ys) := by
 apply ByteArray.ext; simp [ah]
@[simp] theorem Jw (n : Nat) (l : List Int) : aR n (al aN l) := di aN n (fun _ => ⟨trivial, trivial⟩) l
@[simp] theorem Jy (n : Nat) (l : List (List UInt8)) : aR n (al gh l) := di gh n (fun _ => ⟨trivial, trivial⟩) l
theorem ay {n : Nat} {h : List (List AV)} (hh : aR n h) {i : Nat} {cs : List AV} (hc : cg n cs) : aR n (h.set i cs) :=
 iR fun j e he => by
  rw [List.getElem?_set] at he
  split at he
  ·split at he
   ·injection he with he; subst he; exact hc
   ·cases he
  ·exact dV hh j e he
theorem A8 {h : List (List AV)} {i : Nat} {a b : List AV} (hab : iP i 0 a b) : iQ 0 (h.set i a) (h.set i b) := by
 have key : ∀ (h : List (List AV)) (k i : Nat), iP (k + i) 0 a b -> iQ k (h.set i a) (h.set i b) := fun h => by
  induction h with
  | nil => intro k i _; trivial
  | cons c r ih =>
   intro k i hh
   cases i with
   | zero => exact ⟨.inr hh, eJ r _⟩
   | succ i => exact ⟨.inl rfl, ih (k + 1) i (by rw [show k + 1 + i = k + (i + 1) by omega]; exact hh)⟩
 exact key h 0 i (by rw [Nat.zero_add]; exact hab)
@[simp] theorem se (h : List (List AV)) (i : Nat) (hi : i < h.length) (a b : List AV) : iQ 0 (h.set i a) (h.set i b) ↔ a = b \/ iP i 0 a b := by
 constructor
 ·intro hh
  obtain ⟨_, h2⟩ := nW hh
  right
  obtain ⟨cs, h3, h4, h5⟩ := h2 i b (by rw [Rj hi])
  rw [Rj hi] at h3
  injection h3 with h3
  subst h3
  have key : ∀ (a b : List AV) (j : Nat), a.length = b.length -> (∀ (k : Nat) (y : AV), b[k]? = some y -> ∃ x, a[k]? = some x /\ LeqV (.cell i (j + k)) x y) -> iP i j a b := fun a => by
   induction a with
   | nil => intro b j hl _; cases b with
    | nil => trivial
    | cons _ _ => simp at hl
   | cons x r ih =>
    intro b j hl hh
    cases b with
    | nil => simp at hl
    | cons y q =>
     refine ⟨?_, ih q (j + 1) (by simpa using hl) fun k z hz => ?_⟩
     ·obtain ⟨x', h1, h2⟩ := hh 0 y rfl
      simp at h1; subst h1; exact h2
     ·obtain ⟨x', h1, h2⟩ := hh (k + 1) z (by simpa using hz)
      exact ⟨x', by simpa using h1, by rw [show j + 1 + k = j + (k + 1) by omega]; exact h2⟩
  exact key a b 0 h4 fun k y hy => by obtain ⟨x, h6, h7⟩ := h5 k y hy; exact ⟨x, h6, by simpa using h7⟩
 ·rintro (rfl | hh)
  ·exact eJ _ _
  ·exact A8 hh
section
variable {α : Type} (h l : List α) (n : Nat) (x : α)
@[simp] theorem M5 : (h ++ l)[h.length + n]? = l[n]? := by rw [Ra (by omega), Rg]
@[simp] theorem L6 : (h ++ l)[h.length]? = l[0]? := by rw [Ra (by omega), Rn]
@[simp] theorem wt : (h ++ l).set (h.length + n) x = h ++ l.set n x := by rw [Rp _ _ (by omega), Rg]
@[simp] theorem D8 : (h ++ l).set h.length x = h ++ l.set 0 x := by rw [Rp _ _ (by omega), Rn]
end
@[simp] theorem Ee {α : Type} (h : List α) (i : Nat) (x : α) : RC h.length (h.set i x) = h.set i x := Rc (by simp)
@[simp] theorem EQ {n : Nat} {h : List (List AV)} (hh : aR n h) (i : Nat) (cs : List AV) : aR n (h.set i cs) ↔ cg n cs \/ h.length <= i := by
 constructor
 ·intro hx
  rcases Ro i h.length with h1 | h1
  ·exact .inl (dV hx i cs (Rj h1))
  ·exact .inr h1
 ·rintro (h1 | h1)
  ·exact ay hh h1
  ·rw [Rf h1]; exact hh
@[simp] theorem EM (h : List (List AV)) (i : Nat) (a b : List AV) : iQ 0 (h.set i a) (h.set i b) ↔ iP i 0 a b \/ h.length <= i := by
 rcases Ro i h.length with h1 | h1
 ·rw [se h i h1 a b]
  constructor
  ·rintro (rfl | h2)
   ·left
    have key : ∀ (a : List AV) (j : Nat), iP i j a a := fun a => by
     induction a with
     | nil => intro j; trivial
     | cons x r ih => intro j; exact ⟨gA _ _, ih _⟩
    exact key a 0
   ·exact .inl h2
  ·rintro (h2 | h2)
   ·exact .inr h2
   ·omega
 ·rw [Rf h1, Rf h1]
  simp [h1]
theorem ux {α : Type} {h : List α} {i : Nat} {x : α} (hi : h[i]? = some x) : h.set i x = h := by
 obtain ⟨h1, h2⟩ := Q8.1 hi
 rw [<- h2]; exact List.set_getElem_self h1
@[simp] theorem H9 {α : Type} (h l : List α) (n : Nat) : RC (h.length + n) (h ++ l) = h ++ l.take n := by rw [Rx, Rc (by omega), Rg]
mutual
theorem sg {n m : Nat} (hnm : n <= m) : ∀ {a : AV}, a.lt n -> a.lt m
 | .v _, _ => by simp
 | .any, _ => by simp
 | .box i o, h => by simp at h ⊢; omega
 | .bsl i o k n, h => by simp at h ⊢; omega
 | .yld i r c a, h => by simp at h ⊢; exact ⟨by omega, dW hnm h.2⟩
 | .mp i _ _, h => by simp at h ⊢; omega
 | .ifc t a, h => by simp at h ⊢; exact sg hnm h
 | .itr i none _ _, h => by simp at h ⊢; omega
 | .itr i (some j) _ _, h => by simp at h ⊢; omega
 | .ro cs, h => by simp at h ⊢; exact dW hnm h
 | .sl k es nul room, h => by simp at h ⊢; exact aH hnm h
 | .fn f a b, h => by simp at h ⊢; exact ⟨dW hnm h.1, dW hnm h.2⟩
 | .agg cs, h => by simp at h ⊢; exact dW hnm h
 | .tup cs, h => by simp at h ⊢; exact dW hnm h
theorem dW {n m : Nat} (hnm : n <= m) : ∀ {l : List AV}, cg n l -> cg m l
 | [], _ => by simp
 | a :: r, h => by simp at h ⊢; exact ⟨sg hnm h.1, dW hnm h.2⟩
theorem aH {n m : Nat} (hnm : n <= m) : ∀ {l : List (List AV)}, aR n l -> aR m l
 | [], _ => by simp
 | a :: r, h => by simp at h ⊢; exact ⟨dW hnm h.1, aH hnm h.2⟩
end
@[simp] theorem Jx {h : List (List AV)} (hh : aR h.length h) (k : Nat) : aR (h.length + k) h := aH (Nat.le_add_right _ _) hh
section
variable {α : Type} (h l : List α) (n i : Nat) (x y : α)
@[simp] theorem B5 : RC (h.length + n) (h.set i x ++ l) = h.set i x ++ l.take n := by rw [Rx, Rc (by simp)]; simp
end
@[simp] theorem L5 (a b : Nat) : (a + b < a) = False := by simp
attribute [simp] te td AH AG
@[simp] theorem A7 {α : Type} {l : List α} : ∀ {cs : List α}, cs.length = l.length -> lay cs 0 l = l := fun {cs} hl => by
 apply List.ext_getElem?
 intro j
 rw [gV l cs 0 j (by omega)]
 by_cases hj : j < l.length
 ·rw [if_pos ⟨by omega, by omega⟩, Rm]
 ·rw [if_neg (by omega), Rq (by omega), Rq (by omega)]
section
variable {P : Program} {f : FuncId} {args : List AV} {h : List (List AV)}
theorem enters_of {fn : Func} (h1 : P.funcs[f]? = some fn) (h2 : ((fn.name == "runtime.NumGoroutine") || fn.body.isNone) = false) : Enters P f := by
 rw [Bool.or_eq_false_iff] at h2
 exact ⟨fn, h1, h2.1, h2.2⟩
def cL (P : Program) (f : FuncId) : Bool :=
 match P.funcs[f]? with
 | some fn => !((fn.name == "runtime.NumGoroutine") || fn.body.isNone)
 | none => false
theorem cl (h : cL P f = true) : Enters P f := by
 unfold cL at h
 split at h
 ·rename_i fn hfn; exact enters_of hfn (by simpa using h)
 ·cases h
theorem iF (hE : cL P f = true) {r : AV} (hr : r.idOf = none) (hc : ∀ (G : Ghost) (w : World) (vs : List Value), WorldOk G w -> SeesL G args vs -> ∃ v, Sees G r v /\ Calls P f vs.toArray w fun e w' => e = .returned v /\ w = w') : ae P f args h r h [] := by
 refine ⟨cl hE, fun G w vs cls hW hS hvs hown hoh => ?_⟩
 obtain ⟨v, hv, hcl⟩ := hc G w vs hW hvs
 refine hcl.mono fun e w' he => ?_
 obtain ⟨rfl, rfl⟩ := he
 refine ⟨v, G, cls, rfl, Ext.refl G, hW, hS, fun i cs us h1 h2 j c hj => ?_, hv, .none _ hr, fun c hc => (by rw [hr] at hc; cases hc), fun _ _ _ => rfl, fun _ _ hb _ => hb⟩
 obtain ⟨h3, h4⟩ := hoh i cs us h1 h2 j c hj
 exact ⟨h3.imp2 fun b y B hB _ _ hcl => ⟨hcl, .inr (.inr ⟨i, cs, us, j, c, h1, h2, hj, hB⟩)⟩, h4⟩
theorem jx (hE : cL P f = true) {E : TypeId} {xs : List UInt8} (hc : ∀ (G : Ghost) (w : World) (vs : List Value), WorldOk G w -> SeesL G args vs -> Calls P f vs.toArray w fun e w' => ∃ v, e = .returned v /\ OwnB E w' w.heap.size v xs /\ Below w.heap.size w w') : ae P f args h (.sl 1 (ak xs) none (.own .res)) h [] := by
 refine ⟨cl hE, fun G w vs cls hW hS hvs hown hoh => ?_⟩
 refine (hc G w vs hW hvs).mono fun e w' he => ?_
 obtain ⟨v, rfl, ⟨_, ho⟩, hb⟩ := he
 have hbelow : Below G.w0.heap.size G.w0 w' := hW.below.trans (hb.mono hW.size)
 have hcell : ∀ (b j : Nat), b < w.heap.size -> w'.cell? ⟨b, j, none⟩ = w.cell? ⟨b, j, none⟩ /\ w'.frozen? ⟨b, j, none⟩ = w.frozen? ⟨b, j, none⟩ := fun b j hlt =>
  ⟨World.cell?_of_block (w := w) (a := ⟨b, j, none⟩) (hb.block b hlt), World.frozen?_of_block (w := w) (a := ⟨b, j, none⟩) (hb.block b hlt)⟩
 have own_ : ∀ (G' : Ghost), G'.boxv = G.boxv -> (∀ b B, G.bufs b = some B -> G'.bufs b = some B) -> ∀ cls' : Nat -> Id, (∀ b, b < w.heap.size -> cls' b = cls b) -> sU G' (fun b c => cls' b = c /\ (G.bufs b = none \/ az G args vs h b)) h := fun G' e1 e2 cls' e3 i cs us h1 h2 j c hj => by
  rw [e1] at h2
  obtain ⟨h3, h4⟩ := hoh i cs us h1 h2 j c hj
  refine ⟨h3.move fun b y B hB _ hbB hcl => ⟨e2 b B hbB, ?_, .inr (.inr ⟨i, cs, us, j, c, h1, h2, hj, hB⟩)⟩, h4⟩
  rw [e3 b (hW.buf b B hbB).2.1]; exact hcl
 rcases ho with ⟨rfl, hn⟩ | ⟨g, cap, cur, rfl, hg, hrow, hcap, hmax, hcs, htake⟩
 ·
  have hxs : xs = [] := Rk hn
  subst hxs
  have hW' : WorldOk G w' := by
   refine ⟨hbelow, fun b B hB => ?_, fun i b us h1 h2 => ?_, hW.nodup2, hW.len, hW.objK (dg hb)⟩
   ·obtain ⟨h1, h2, h3, h4, h5⟩ := hW.buf b B hB
    exact ⟨h1, by have := hb.size; omega, h3, fun j hj => by rw [(hcell b j h2).1, (hcell b j h2).2]; exact h4 j hj, fun j x hx => by rw [(hcell b j h2).1]; exact h5 j x hx⟩
   ·obtain ⟨h3, h4, h5, h6⟩ := hW.box i b us h1 h2
    exact ⟨h3, by have := hb.size; omega, h5, fun j x hx => by rw [(hcell b _ h4).1, (hcell b _ h4).2]; exact h6 j x hx⟩
  refine ⟨_, G, cls, rfl, Ext.refl G, hW', hS, own_ G rfl (fun _ _ h => h) cls (fun _ _ => rfl), ?_, .inl ⟨rfl, fun _ => rfl⟩, fun c hc => (by simp [AV.idOf] at hc; exact hc.symm), fun _ _ _ => rfl, fun _ _ hb _ => hb⟩
  exact .sl 1 [] none _ none 0 0 (fun _ _ => undef) rfl ⟨fun _ => ⟨rfl, rfl⟩, fun h => (by cases h), fun h => (by cases h)⟩ (fun e h => by simp at h) (Ru _) (by simp [maxLen]) (fun h => by cases h) (fun h => by simp at h) (fun i e h => by simp at h) (fun i j h => by simp at h)
 ·have hgw : g < w'.heap.size := by
   rcases Ro g w'.heap.size with h1 | h1
   ·exact h1
   ·rw [Array.getElem?_eq_none h1] at hrow; cases hrow
  let G' : Ghost := G.setBuf g ⟨vals xs, cap⟩
  have hnew : ∀ j, w'.cell? ⟨g, j, none⟩ = cur[j]? /\ (j < cur.size -> w'.frozen? ⟨g, j, none⟩ = false) := fun j => by
   refine ⟨cell_of_row _ _ j cur E (0, 0) hrow, fun hj => ?_⟩
   simp [World.frozen?, hrow]
  have hbufs : ∀ b B, G.bufs b = some B -> G'.bufs b = some B := fun b B hB => by
   have := (hW.buf b B hB).2.1
   show (if b = g then _ else G.bufs b) = _
   rw [if_neg (by omega), hB]
  have hE' : Ext G G' := ⟨rfl, fun b B hB => ⟨[], by rw [hbufs b B hB, Rz]⟩, ⟨[], by rw [Rz]; rfl⟩, fun _ _ h => h, fun _ _ _ => ⟨rfl, rfl⟩⟩
  have hcur : cur.size = cap := by rw [hcs, Nat.mul_one]
  have hvals : ∀ j x, (vals xs)[j]? = some x -> w'.cell? ⟨g, j, none⟩ = some x := fun j x hx => by
   rw [(hnew j).1]
   rw [<- htake, List.getElem?_take] at hx
   split at hx
   ·rw [<- Array.getElem?_toList]; exact hx
   ·cases hx
  have hW' : WorldOk G' w' := by
   refine ⟨hbelow, fun b B hB => ?_, fun i b us h1 h2 => ?_, hW.nodup2, hW.len, hW.objK (dg hb)⟩
   ·have hB' : (if b = g then some (⟨vals xs, cap⟩ : Buf) else G.bufs b) = some B := hB
    split at hB'
    ·rename_i e
     subst e
     injection hB' with hB'
     subst hB'
     refine ⟨by have := hW.size; show G.w0.heap.size <= _; omega, hgw, by rw [jb]; exact hcap, fun j hj => ?_, hvals⟩
     rw [(hnew j).1, (hnew j).2 (by rw [hcur]; exact hj), Array.getElem?_eq_getElem (by rw [hcur]; exact hj)]
     exact ⟨rfl, rfl⟩
    ·obtain ⟨h1, h2, h3, h4, h5⟩ := hW.buf b B hB'
     exact ⟨h1, by have := hb.size; omega, h3, fun j hj => by rw [(hcell b j h2).1, (hcell b j h2).2]; exact h4 j hj, fun j x hx => by rw [(hcell b j h2).1]; exact h5 j x hx⟩
   ·obtain ⟨h3, h4, h5, h6⟩ := hW.box i b us h1 h2
    refine ⟨h3, by have := hb.size; omega, fun hne => ?_, fun j x hx => by rw [(hcell b _ h4).1, (hcell b _ h4).2]; exact h6 j x hx⟩
    show (if b = g then _ else G.bufs b) = none
    rw [if_neg (by omega)]; exact h5 hne
  refine ⟨_, G', fun b => if b = g then .res else cls b, rfl, hE', hW', ⟨hS.1, fun i cs us h1 h2 => ?_⟩, own_ G' rfl hbufs _ (fun b hlt => by show (if b = g then _ else _) = _; rw [if_neg (by omega)]), ?_, .inr ⟨g, 0, ⟨vals xs, cap⟩, rfl, ?_, ?_, ?_, ?_, ?_⟩, fun c hc => (by simp [AV.idOf] at hc; exact hc.symm), fun _ _ _ => rfl, fun b B hB _ => hbufs b B hB⟩
  ·obtain ⟨h3, h4, h5⟩ := hS.2 i cs us h1 h2
   exact ⟨h3, h4, fun j c hj => (h5 j c hj).ext hE'⟩
  ·refine .sl 1 (ak xs) none _ (some ⟨g, 0, none⟩) xs.length cap (fun i _ => .int .u8 (dc xs i)) (by simp [ak]) ⟨fun h => (by cases h), fun h => (by cases h), fun h => (by cases h)⟩ (fun e he => ?_) hcap hmax (fun h => by cases h) (fun _ => ⟨g, 0, rfl, fun i j hi hj => ?_⟩) (fun i e he j c hj => ?_) (fun _ _ _ _ => rfl)
   ·unfold ak at he; obtain ⟨q, _, rfl⟩ := Rt.1 he; rfl
   ·have hi' : i < xs.length := by simpa [ak] using hi
    have hj0 : j = 0 := by omega
    subst hj0
    unfold Ghost.cell
    rw [if_neg (by have := hW.size; show ¬ g < G.w0.heap.size; omega)]
    show (if g = g then _ else _ : Option Buf).bind _ = _
    rw [if_pos rfl]
    show (vals xs)[0 + i * 1 + 0]? = _
    rw [show 0 + i * 1 + 0 = i by omega]
    exact fU xs i hi'
   ·have hi' : i < xs.length := by
     have := (Q8.1 he).1; simpa [ak] using this
    have e1 : e = [.v (.int .u8 (dc xs i))] := by
     unfold ak at he
     rw [Rh, Q9 hi'] at he
     injection he with he
     rw [<- he]
     simp [dc, Q7, hi']
    subst e1
    cases j with
    | zero => simp at hj; subst hj; exact .v _
    | succ j => simp at hj
  ·show (if g = g then _ else _) = _
   rw [if_pos rfl]
  ·rw [jb]; simp
  ·simp
  ·simp
  ·left
   cases hB : G.bufs g with
   | none => rfl
   | some B => have := (hW.buf g B hB).2.1; omega
end
theorem SeesL.one {G : Ghost} {a : AV} {vs : List Value} (h : SeesL G [a] vs) : ∃ x, vs = [x] /\ Sees G a x := by
 obtain ⟨x, rfl⟩ := Ri.1 h.1
 exact ⟨x, rfl, h.2 0 a rfl⟩
theorem SeesL.split {G : Ghost} {a : AV} {l : List AV} {vs : List Value} (h : SeesL G (a :: l) vs) : ∃ x r, vs = x :: r /\ Sees G a x /\ SeesL G l r := by
 cases vs with
 | nil => have := h.1; simp at this
 | cons x r => exact ⟨x, r, rfl, h.tail⟩
theorem SeesL.none {G : Ghost} {vs : List Value} (h : SeesL G [] vs) : vs = [] := Rk h.1
theorem Sees.bytes {G : Ghost} {k : Nat} {bs : List UInt8} {nul : Option Bool} {room : Room} {x : Value} (h : Sees G (.sl k (ak bs) nul room) x) {w : World} (hW : WorldOk G w) : ∃ a cap, x = .slice a bs.length cap /\ (a = none -> cap = 0) /\ bs.length <= cap /\ cap <= maxLen /\ BytesAt w w.heap.size a bs := by
 have h0 := h
 cases h with
 | sl _ _ _ _ a len cap u hlen hn hk hcap hm =>
  obtain ⟨e, hb⟩ := pd (fo bs) h0 hW
  subst e
  exact ⟨a, cap, rfl, fun ha => (hn.1 ha).1, hcap, hm, hb⟩
theorem qx : ∀ {n : Nat} {l : List AV}, (∀ c ∈ l, c.idOf = none) -> gv n l l
 | _, [], _ => trivial
 | n, c :: _, h => ⟨yS n (h c (Rb ..)), qx fun x hx => h x (Re _ hx)⟩
theorem jT : ∀ {l : List AV}, (∀ c ∈ l, c.idOf = none) -> bF l l = l
 | [], _ => rfl
 | c :: r, h => by
  show hand c c :: bF r r = c :: r
  rw [yV (h c (Rb ..)), jT fun x hx => h x (Re _ hx)]
theorem gU : ∀ {l : List AV}, (∀ c ∈ l, c.idOf = none) -> aZ l = []
 | [], _ => rfl
 | c :: _, h => by
  rw [eY, h c (Rb ..)]
  exact gU fun x hx => h x (Re _ hx)
theorem aa {P : Program} {f : FuncId} {args : List AV} {s : St} {d : Option Nat} {K : St -> List Nat -> Prop} {r : AV} {h' : List (List AV)} {wr : List Nat} (hn : ∀ c ∈ args, c.idOf = none) (hc : ae P f args s.heap r h' wr) (hk : K (s.called args d r h' wr) []) : jK P f args s d K :=
 ao hc (qx hn) (by rw [jT hn, gU hn]; exact List.nodup_nil) (by rw [jT hn]; exact hk)
def oG (c : Nat) (b : Bool) (x : XOper) : XOper := ⟨x.dst, x.op, some (c, b)⟩
def oX (d : Nat) (x : XOp) : XOper := ⟨some d, x, none⟩
def oM (d a : Nat) : XOper := ⟨some d, .move (.tmp a), none⟩
def oA (d a : Nat) : XOper := ⟨some d, .assign (.tmp a), none⟩
def oK (d : Nat) (v : Value) : XOper := ⟨some d, .assign (.const v), none⟩
def oN (d : Nat) : XOper := ⟨some d, .assign (.const (.slice none 0 0)), none⟩
def oF (d k a : Nat) : XOper := ⟨some d, .faddr k (.tmp a), none⟩
def oL (d a : Nat) : XOper := ⟨some d, .load1 (.tmp a), none⟩
def oP (d k a : Nat) : XOper := ⟨some d, .loadN k (.tmp a), none⟩
def oE (d a k : Nat) : XOper := ⟨some d, .extract (.tmp a) k, none⟩
def oB (d : Nat) (o : BinOp) (a b : Nat) : XOper := ⟨some d, .bin o (.tmp a) (.tmp b), none⟩
def oI (d : Nat) (o : BinOp) (a : Nat) (v : Value) : XOper := ⟨some d, .bin o (.tmp a) (.const v), none⟩
def oC (d f : Nat) (l : List Nat) : XOper := ⟨some d, .call f (l.map .tmp), none⟩
def oS (n a b : Nat) : XOper := ⟨none, .store n (.tmp a) (.tmp b), none⟩
def oZ (d : Nat) (z : List AV) : XOper := ⟨some d, .alloc z, none⟩
def oY (d i a b : Nat) : XOper := ⟨some d, .pick (.tmp i) (.tmp a) (.tmp b), none⟩
def oT (d i a : Nat) : XOper := ⟨some d, .pick (.tmp i) (.tmp a) (.const (.bool false)), none⟩
def oU (d i a : Nat) : XOper := ⟨some d, .pick (.tmp i) (.const (.bool true)) (.tmp a), none⟩
def oW (d k a b : Nat) : XOper := ⟨some d, .iaddr k (.tmp a) (.tmp b), none⟩
def oH (d a : Nat) : XOper := ⟨some d, .lenL (.tmp a), none⟩
def oV (d a : Nat) : XOper := ⟨some d, .un .not (.tmp a), none⟩
def oJ (d a : Nat) : XOper := ⟨some d, .box (.tmp a), none⟩
def oQ (n a : Nat) (v : Value) : XOper := ⟨none, .store n (.tmp a) (.const v), none⟩
def oR (d k n a : Nat) (z : List AV) : XOper := ⟨some d, .buildSlice k n z [(0, .tmp a)], none⟩
def oD (d k : Nat) (z : List AV) (a : Nat) : XOper := ⟨some d, .build z [(k, 1, .tmp a)], none⟩
attribute [simp] oG oX oM oA oK oN oF oL oP oE oB oI oC oS oZ oY oT oU oW oH oV oJ oQ oR oD
def bM : List AV := [.v (.int .u8 0),.v (.int .u8 0),.v (.string (ah [])),.v (.string (ah [])),.v (.string (ah [])),.v (.int .i64 0),.v (.int .i64 0),.sl 0 [] (some true) .exact,.sl 0 [] (some true) .exact,.sl 0 [] (some true) .exact,.sl 0 [] (some true) .exact]
def lx : List AV := [.v (.int .u8 0),.v (.int .u8 0),.v (.string (ah [])),.v (.string (ah [])),.v (.string (ah [])),.sl 0 [] (some true) .exact,.sl 0 [] (some true) .exact,.sl 0 [] (some true) .exact,.sl 0 [] (some true) .exact,.v (.int .i64 0)]
def pI : List AV := [.v (.string (ah [])),.sl 0 [] (some true) .exact,.sl 0 [] (some true) .exact,.sl 0 [] (some true) .exact,.v (.bool false),.v (.bool false)]
def kI : List AV := [.v (.int .i64 0),.v (.int .i64 0),.v (.string (ah []))]
def mZ : List AV := [.v (.string (ah [])),.sl 0 [] (some true) .exact]
def pJ : List AV := [.v (.string (ah [])),.v (.string (ah []))]
def EC : List AV := [.v (.string (ah [])),.v (.int .i64 0),.v (.int .i64 0),.v (.int .i64 0),.v (.int .i64 0),.v (.int .i64 0),.v (.int .i64 0)]
def xg : List AV := [.v (.bool false),.sl 0 [] (some true) .exact]
def Ja : List AV := [.v (.pointer none),.v (.map none),.v (.pointer none),.v (.int .u8 0),.v (.bool false),.v (.bool false)]
def zZ : List AV := [.v (.int .u8 0),.v (.string (ah []))]
def uW : List AV := [.v (.int .u8 0),.sl 0 [] (some true) .exact]
def ly : List AV := [.v (.int .i64 0)]
def rA : List AV := [.v (.string (ah []))]
def yj : List AV := [.sl 0 [] (some true) .exact]
attribute [simp] bM lx pI kI mZ pJ EC xg Ja zZ uW ly rA yj
theorem wrap64 {n : Int} (h1 : -9223372036854775808 <= n) (h2 : n <= 9223372036854775807) : IntKind.i64.wrap n = n := by
 simp only [IntKind.wrap]
 simp [IntKind.bits, IntKind.signed]
 omega
theorem ar {P : Program} {m : Frm} {a : XCode} {s : St} {K : XExit -> St -> Prop} {D : Type} (inv : D -> St) (ok : D -> Prop) (μ : D -> Nat) (d0 : D) (hd : ok d0) (h0 : Leq m.h.length s (inv d0)) (hr : ∀ d, ok d -> dH P m a (inv d) (XExit.then (fun s' => ∃ d', ok d' /\ μ d' < μ d /\ Leq m.h.length s' (inv d')) K)) : dH P m (.loop a) s K := by
 refine Cy (D := { d : D // ok d }) (fun d => inv d.1) (fun d => μ d.1) ⟨d0, hd⟩ h0 fun d => ?_
 have e : (fun s' => ∃ d' : { d : D // ok d }, μ d'.1 < μ d.1 /\ Leq m.h.length s' (inv d'.1)) = fun s' => ∃ d', ok d' /\ μ d' < μ d.1 /\ Leq m.h.length s' (inv d') := by
  funext s'
  exact propext ⟨fun ⟨d', h1, h2⟩ => ⟨d'.1, d'.2, h1, h2⟩, fun ⟨d', h1, h2, h3⟩ => ⟨⟨d', h1⟩, h2, h3⟩⟩
 rw [e]
 exact hr d.1 d.2
end Go.Proofs.YtknohkmpficjgaaGreatDoor.Ax
namespace Go.Proofs.YtknohkmpficjgaaGreatDoor.Ax
open Go.RowKit Go.Deep Go.ChangeShapes Go.WideShapes Go.ChangeAt Go.Joins Go By
def G0 (w : World) : Ghost := ⟨w, fun _ => none, [], [], fun _ => none, fun _ => (none, 0), fun _ => 0⟩
theorem Kr (w : World) (hd : Dom w) : WorldOk (G0 w) w := ⟨Below.refl _ _, fun b B h => (by cases h), fun i b vs h => (by simp [G0] at h), ⟨fun i j b h => (by simp [G0] at h), hd⟩, rfl, fun b o h => (by cases h), fun i b vs κ h => (by simp [G0] at h), fun b h => absurd rfl h, fun b j h => absurd h (Nat.not_lt_zero j)⟩
theorem CK {w : World} {b o : Nat} {x : Value} (h : w.cell? ⟨b, o, none⟩ = some x) : (G0 w).cell b o = some x := by
 have hb : b < w.heap.size := jX h
 unfold Ghost.cell G0
 rw [if_pos hb, h]
def SeesCs (G : Ghost) (es : List AV) (cs : List Value) : Prop := cs.length = es.length /\ (∀ x ∈ cs, x.oneCell' = true) /\ ∀ j c, es[j]? = some c -> Sees G c (cs.getD j undef)
theorem SeesCs.one {G : Ghost} {a : AV} {x : Value} (h1 : x.oneCell' = true) (h : Sees G a x) : SeesCs G [a] [x] :=
 ⟨rfl, fun y hy => by simp at hy; subst hy; exact h1, fun j c hj => by cases j with | zero => simp at hj; subst hj; exact h | succ j => simp at hj⟩
theorem SeesCs.append {G : Ghost} {es fs : List AV} {cs ds : List Value} (h : SeesCs G es cs) (k : SeesCs G fs ds) : SeesCs G (es ++ fs) (cs ++ ds) := by
 refine ⟨by simp [h.1, k.1], fun x hx => ?_, fun j c hj => ?_⟩
 ·rcases List.mem_append.1 hx with hx | hx
  ·exact h.2.1 x hx
  ·exact k.2.1 x hx
 ·rcases Ro j es.length with hl | hl
  ·rw [Rl hl] at hj
   have := h.2.2 j c hj
   rwa [Q7, Rl (by rw [h.1]; exact hl), <- Q7]
  ·rw [Ra hl] at hj
   have := k.2.2 _ c hj
   rwa [Q7, Ra (by rw [h.1]; exact hl), h.1, <- Q7]
theorem SeesCs.single {G : Ghost} {a : AV} {x : Value} (h : SeesCs G [a] [x]) : Sees G a x := h.2.2 0 a rfl
def Shape (P : Program) (t : TypeId) {α : Type} (f : α -> List AV) (ok : α -> Prop) : Prop :=
 ∀ {H : Type} (al : TypeId × Value -> H) (w : World) (base : Nat) (held : Bool) (n : Nat) (cs : List Value) (x : DataW H × List MemPlace), DataW.trod al P w base (fun _ => true) held n t cs = some x -> ∃ a, ok a /\ SeesCs (G0 w) (f a) cs
section
variable {P : Program} {t : TypeId}
theorem Shape.map {α β : Type} {f : α -> List AV} {ok : α -> Prop} (h : Shape P t f ok) {f' : β -> List AV} {ok' : β -> Prop} (g : α -> β) (hf : ∀ a, f' (g a) = f a) (hok : ∀ a, ok a -> ok' (g a)) : Shape P t f' ok' := fun al w base held n cs x hx => by
 obtain ⟨a, h1, h2⟩ := h al w base held n cs x hx
 exact ⟨g a, hok a h1, by rw [hf]; exact h2⟩
theorem lU {k : IntKind} (ht : P.underlying t = some (.int k)) : Shape P t (fun n : Int => [.v (.int k n)]) (fun n => (Lit.int k n).wf = true) := fun al w base held n cs x hx => by
 obtain ⟨n, rfl, _, hw⟩ := DataW.trod_int ht hx
 exact ⟨n, hw, .one rfl (.v _)⟩
theorem wv (ht : P.underlying t = some .bool) : Shape P t (fun b : Bool => [.v (.bool b)]) (fun _ => True) := fun al w base held n cs x hx => by
 obtain ⟨n, rfl, _⟩ := DataW.trod_bool ht hx
 exact ⟨n, trivial, .one rfl (.v _)⟩
theorem zH (s : ByteArray) : ah s.data.toList = s := by apply ByteArray.ext; simp [ah]
theorem zD (ht : P.underlying t = some .string) : Shape P t gh (fun s => s.length <= maxLen) := fun al w base held n cs x hx => by
 obtain ⟨s, rfl, _, hw⟩ := DataW.trod_string ht hx
 exact ⟨s.data.toList, by simpa using hw, by unfold gh; rw [zH]; exact .one rfl (.v _)⟩
theorem GE {α : Type} (f : α -> List AV) (l : List α) (i : Nat) {e : List AV} (h : (al f l)[i]? = some e) : ∃ a, l[i]? = some a /\ f a = e := by
 unfold al at h
 rw [Rh] at h
 cases hl : l[i]? with
 | none => rw [hl] at h; cases h
 | some a => rw [hl] at h; injection h with h; exact ⟨a, rfl, h⟩
theorem fR {e : TypeId} {k : Nat} {α : Type} {f : α -> List AV} {ok : α -> Prop} (ht : P.underlying t = some (.slice e)) (hk : P.cellsOf e = k) (hp : 0 < k) (he : Shape P e f ok) (hf : ∀ a, (f a).length = k) :
  Shape P t (fun l : List α => [.sl k (al f l) none .no]) (fun l => l.length <= maxLen /\ ∀ x ∈ l, ok x) := fun en w base held n cs x hx => by
 rcases open_slice ht hx with ⟨rfl, _⟩ | ⟨a, len, cap, m, n, D, Pl, rfl, _, hl, hcm, hm, _, hi⟩
 ·exact ⟨[], ⟨by simp [maxLen], fun x h => by cases h⟩, .one rfl (.sl k [] none .no none 0 0 (fun _ _ => undef) rfl ⟨fun _ => ⟨rfl, rfl⟩, fun h => (by cases h), fun h => (by cases h)⟩ (fun e h => by cases h) (Ru _) (by simp [maxLen]) (fun h => by cases h) (fun h => by simp at h) (fun i e h => by simp at h) (fun i j h => by simp at h))⟩
 ·simp at hm
  by_cases h0 : len = 0
  ·subst h0
   exact ⟨[], ⟨by simp [maxLen], fun x h => by cases h⟩, .one rfl (.sl k [] none .no (some a) 0 cap (fun _ _ => undef) rfl ⟨fun h => (by cases h), fun h => (by cases h), fun h => (by cases h)⟩ (fun e h => by cases h) hl hcm (fun h => by cases h) (fun h => by simp at h) (fun i e h => by simp at h) (fun i j h => by simp at h))⟩
  have at_ : ∀ i, i < len -> ∃ p : α × List Value, ok p.1 /\ SeesCs (G0 w) (f p.1) p.2 /\ p.2.length = k /\ ∀ j u, p.2[j]? = some u -> w.cell? ((a.add (i * k)).add j) = some u := fun i hlt => by
   obtain ⟨cs', hc, ht'⟩ := hi i (by omega)
   rw [hk] at hc
   obtain ⟨_, hlen, hat⟩ := World.cells?_some hc
   obtain ⟨b, h1, h2⟩ := he en w base held n cs' _ ht'
   refine ⟨(b, cs'), h1, h2, hlen, fun j u hu => ?_⟩
   have hj : j < k := by rw [<- hlen]; exact (Q8.1 hu).1
   rw [hat j hj, hu]
  have hel : ∀ i, ∃ p : α × List Value, i < len -> ok p.1 /\ SeesCs (G0 w) (f p.1) p.2 /\ p.2.length = k /\ ∀ j u, p.2[j]? = some u -> w.cell? ((a.add (i * k)).add j) = some u := fun i => by
   by_cases hlt : i < len
   ·obtain ⟨p, hp⟩ := at_ i hlt; exact ⟨p, fun _ => hp⟩
   ·obtain ⟨p, _⟩ := at_ 0 (by omega); exact ⟨p, fun hh => absurd hh hlt⟩
  obtain ⟨g, hg⟩ := Classical.axiomOfChoice hel
  have hget : ∀ i, i < len -> ((RD len).map fun i => (g i).1)[i]? = some (g i).1 := fun i hi' => by
   rw [Rh, List.getElem?_range hi']; rfl
  refine ⟨(RD len).map fun i => (g i).1, ⟨by simp; omega, fun x hx => ?_⟩, .one rfl ?_⟩
  ·obtain ⟨i, hi', rfl⟩ := Rt.1 hx
   exact (hg i (List.mem_range.1 hi')).1
  ·refine .sl k _ none .no (some a) len cap (fun i j => (g i).2.getD j undef) (by simp [al]) ⟨fun h => (by cases h), fun h => (by cases h), fun h => (by cases h)⟩ (fun e he' => ?_) hl hcm (fun h => by cases h) (fun hpos => ?_) (fun i e he' j c hj => ?_) (fun i j hi' hj => ?_)
   ·obtain ⟨x, _, rfl⟩ := Rt.1 he'; exact hf x
   ·obtain ⟨b, off, spot⟩ := a
    obtain ⟨_, _, hl0, hc0⟩ := hg 0 (by omega)
    have h1 := hc0 0 _ (Q9 (by omega))
    have hs : spot = none := by simpa [Addr.add] using World.cell?_spot h1
    subst hs
    refine ⟨b, off, rfl, fun i j hi' hj => ?_⟩
    have hi2 : i < len := by simpa [al] using hi'
    obtain ⟨_, _, hl1, hc1⟩ := hg i hi2
    have h2 := hc1 j _ (Q9 (by omega))
    rw [By.add_plain, By.add_plain] at h2
    rw [Q7, Q9 (by omega)]
    exact CK h2
   ·obtain ⟨x, hx1, rfl⟩ := GE f _ i he'
    have hi2 : i < len := by have := (Q8.1 hx1).1; simpa using this
    rw [hget i hi2] at hx1
    injection hx1 with hx1
    subst hx1
    exact (hg i hi2).2.1.2.2 j c hj
   ·have hi2 : i < len := by simpa [al] using hi'
    obtain ⟨_, hs, hl1, _⟩ := hg i hi2
    rw [Q7, Q9 (by omega)]
    exact hs.2.1 _ (List.getElem_mem _)
theorem uz {e : TypeId} (ht : P.underlying t = some (.slice e)) (hk : P.cellsOf e = 1) (he : P.underlying e = some (.int .u8)) : Shape P t (fun l : List UInt8 => [.sl 1 (ak l) none .no]) (fun l => l.length <= maxLen) := by
 refine Shape.map (fR ht hk (by decide) (f := fun c : UInt8 => [.v (.int .u8 (c.toNat : Int))]) (ok := fun _ => True) (fun {_} al w base held n cs x hx => ?_) (fun _ => rfl)) id (fun a => rfl) (fun a h => h.1)
 obtain ⟨z, h1, h2⟩ := lU he al w base held n cs x hx
 obtain ⟨h3, h4⟩ := uL h1
 refine ⟨Rw z.toNat, trivial, ?_⟩
 have : ((Rw z.toNat).toNat : Int) = z := by simp; omega
 show SeesCs _ [.v (.int .u8 ((Rw z.toNat).toNat : Int))] _
 rw [this]; exact h2
def rC (P : Program) (fs : List Field) (o m : Nat) {α : Type} (f : α -> List AV) (ok : α -> Prop) : Prop :=
 ∀ {H : Type} (al : TypeId × Value -> H) (w : World) (base : Nat) (held : Bool) (n : Nat) (cs : List Value), cs.length = m ->
  (∀ fd ∈ fs, ∃ x : DataW H × List MemPlace, DataW.trod al P w base (fun _ => true) held n fd.type ((cs.drop (fd.offset - o)).take (P.cellsOf fd.type)) = some x) -> ∃ a, ok a /\ SeesCs (G0 w) (f a) cs
theorem ri {fd : Field} {o k : Nat} {α : Type} {f : α -> List AV} {ok : α -> Prop} (ho : fd.offset = o) (hk : P.cellsOf fd.type = k) (h : Shape P fd.type f ok) : rC P [fd] o k f ok := fun al w base held n cs hl hf => by
 obtain ⟨x, hx⟩ := hf fd (Rb ..)
 rw [ho, Rn, RB, hk, Rc (by omega)] at hx
 exact h al w base held n cs x hx
theorem bC {fd : Field} {fs : List Field} {o k m : Nat} {α β : Type} {f : α -> List AV} {ok : α -> Prop} {g : β -> List AV} {ok' : β -> Prop} (ho : fd.offset = o) (hk : P.cellsOf fd.type = k) (h : Shape P fd.type f ok)
  (ha : fs.all (fun x => decide (o + k <= x.offset)) = true) (hr : rC P fs (o + k) m g ok') : rC P (fd :: fs) o (k + m) (fun p : α × β => f p.1 ++ g p.2) (fun p => ok p.1 /\ ok' p.2) := fun al w base held n cs hl hf => by
 obtain ⟨x, hx⟩ := hf fd (Rb ..)
 rw [ho, Rn, RB, hk] at hx
 obtain ⟨a, h1, h2⟩ := h al w base held n _ x hx
 obtain ⟨b, h3, h4⟩ := hr al w base held n (cs.drop k) (by simp; omega) (fun y hy => by
  obtain ⟨z, hz⟩ := hf y (Re _ hy)
  have := List.all_eq_true.1 ha y hy
  simp at this
  rw [List.drop_drop]
  exact ⟨z, by rw [show k + (y.offset - (o + k)) = y.offset - o by omega]; exact hz⟩)
 exact ⟨(a, b), ⟨h1, h3⟩, by have := h2.append h4; rwa [List.take_append_drop] at this⟩
theorem lm {fs : Array Field} {m : Nat} {α : Type} {f : α -> List AV} {ok : α -> Prop} (ht : P.underlying t = some (.struct fs)) (hm : P.cellsOf t = m) (h : rC P fs.toList 0 m f ok) : Shape P t f ok := fun al w base held n cs x hx => by
 obtain ⟨ys, n', _, _, hlen, hyl, hf⟩ := DataW.trod_struct ht hx
 refine h al w base held n' cs (by omega) fun fd hfd => ?_
 obtain ⟨j, hj⟩ := List.getElem?_of_mem hfd
 have hj' : fs[j]? = some fd := by simpa using hj
 have hlt : j < fs.size := (Array.getElem?_eq_some_iff.1 hj').1
 have := hf j fd hj'
 rw [Rm, this]
 cases hy : ys[j]? with
 | none => rw [List.getElem?_eq_none_iff] at hy; omega
 | some y => exact ⟨y, rfl⟩
variable {H : Type} {al : TypeId × Value -> H} {w : World} {base : Nat} {held : Bool} {r : Reach} {b0 : Nat} {v : Value} {d : DataW H} {p : List MemPlace} {α : Type} {ok : α -> Prop}
theorem CL {c : α -> AV} (h : Shape P t (fun a => [c a]) ok) (hv : v.cells.toList = [v]) (hd : DataW.Trod al P w base (fun _ => true) held t v d p) : ∃ a, ok a /\ Sees (G0 w) (c a) v := by
 obtain ⟨fuel, hf⟩ := hd
 obtain ⟨a, h1, h2⟩ := h al w base held fuel _ _ hf
 rw [hv] at h2
 exact ⟨a, h1, h2.single⟩
theorem arg_slice {e : TypeId} {c : α -> AV} (ht : P.underlying t = some (.slice e)) (h : Shape P t (fun a => [c a]) ok) (hv : Value.okWide P w r b0 t v) (hd : DataW.Trod al P w base (fun _ => true) held t v d p) : ∃ a, ok a /\ Sees (G0 w) (c a) v := by
 obtain ⟨a, l, k, rfl⟩ := okWide_slice ht hv
 exact CL h rfl hd
theorem law_walk {f : FuncId} {args : List AV} {vs : List Value} {b : Bool} {h' : List (List AV)} {wr : List Nat} (hd : Dom w) (hc : ae P f args [] (.v (.bool b)) h' wr) (hn : ∀ a ∈ args, a.idOf = none) (hs : SeesL (G0 w) args vs) :
  Calls P f vs.toArray w fun e w' => e = .returned (.bool b) /\ Below w.heap.size w w' := by
 refine (hc.2 (G0 w) w vs (fun _ => .res) (Kr w hd) ⟨rfl, fun i cs us h => by simp at h⟩ hs (fun i x hx => ⟨.none _ (hn x (Rr hx)), fun c hc => ?_⟩) (fun i cs us h => by simp at h)).mono fun e w' he => ?_
 ·rw [hn x (Rr hx)] at hc; cases hc
 ·obtain ⟨v, G', cls', rfl, ha⟩ := he
  refine ⟨by rw [ha.sees.inv_v], ?_⟩
  have := ha.ok.below
  rwa [ha.ext.w0] at this
end
section
variable {P : Program} {t : TypeId}
variable {H : Type} {al : TypeId × Value -> H} {w : World} {base : Nat} {held : Bool} {r : Reach} {b0 : Nat} {v : Value} {d : DataW H} {p : List MemPlace} {α : Type} {ok : α -> Prop}
end
end Go.Proofs.YtknohkmpficjgaaGreatDoor.Ax
