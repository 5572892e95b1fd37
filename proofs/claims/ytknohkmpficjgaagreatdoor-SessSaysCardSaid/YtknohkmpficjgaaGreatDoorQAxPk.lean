import Derived.Test.YtknohkmpficjgaaGreatDoorQAxPa
import Derived.Test.YtknohkmpficjgaaGreatDoorQAxSt
set_option linter.unusedSimpArgs false
set_option linter.unusedVariables false
open List renaming getElem?_append_left -> Q7, mem_singleton -> Q8, getElem?_set_ne -> Q9, getElem?_set_self -> Ra, getElem?_eq_some_iff -> Rb, mem_cons_self -> Rc, mem_cons -> Re, length_set -> Rg, getElem?_append_right -> Rh, replicate -> Ri, mem_flatMap -> Rj, length_append -> Rk, eq_of_mem_replicate -> Rl, set_append_left -> Rm, mem_of_getElem? -> Rn, nodup_nil -> Ro, getElem?_take -> Rp, getElem?_drop -> Rq, ext_getElem? -> Rr, length_drop -> Rt, mem_of_mem_eraseP -> Rv, take_of_length_le -> Rw, length_replicate -> Rx, getElem?_eq_none -> Ry, getElem?_of_mem -> Rz, mergeSort_perm -> RA, mem_map -> RC, take -> RD, getElem?_map -> RE, drop_zero -> RF, map_map -> RG
open Nat renaming le_add_right -> Rf, le_refl -> Ru
open Option renaming isSome_some -> RB
namespace Go.Proofs.YtknohkmpficjgaaGreatDoor.Ax
open Go.RowKit Go By
set_option maxRecDepth 10000
theorem iO (l : List Int) (hl : l.length <= 1000000) (h : List (List AV)) : ae Tryz.prog 84 [.sl 1 (al aN l) none .no] h (.sl 1 (al aN l) none .no) h [] := by
 refine rP (pre := []) (post := []) (fun he => ?_) ?_
 ·have : l = [] := by cases l with | nil => rfl | cons _ _ => simp [al] at he
  subst this
  refine ac P2 mixed (by simp [Kx]) fun hh hargs => ?_
  simp [Kx, hh, al]
 ·refine ac P2 mixed (by simp [Kx]) fun hh hargs => ?_
  simp [Kx, hh]
  refine dm ?_
  simp [hh]
  omega
theorem uk (L : List (List Cl)) (hne : L ≠ []) : frzOk (L.map bU) := by
 cases L with
 | nil => exact absurd rfl hne
 | cons x r => exact trivial
theorem qX (L : List (List Cl)) (i : Nat) : (AV.bsl i 0 1 L.length).frz i (L.map bU) = .sl 1 (al bl L) (some false) .no := by
 rw [<- lS]
 exact xn (c := bl) (k := 1) (fun _ => rfl) L i L.length rfl
theorem tg {h : List (List AV)} {x : AV} {L : List (List Cl)} (hx : RowsX h x L) (hf : RowsFit L) : ae Tryz.prog 153 [x] h (.sl 1 (al bl L) none .no) h [] := by
 by_cases hne : L = []
 ·subst hne
  exact mm hx
 have hid := hx.id
 have hlt := hx.lt
 have hz := qX L h.length
 have hl1 := hf.1
 refine bR (XCode.cuts [false, false, true] c153.code) GQ rfl mixed (by simp [c153]) fun hh hargs => ?_
 have hF := fun n => fi n L
 simp [c153, hid]
 refine aa (by simpa using hid) (iD hx hne (by omega)) ?_
 simp
 refine pH h.length (L.map bU) ⟨[(3, .sl 1 (al bl L) none .no)], [], h, []⟩ (Ru _) (uk L hne) ?_ ?_
 ·simp
  refine ar (D := Nat) (fun j => ⟨[(3, .bsl h.length 0 1 L.length), (8, .bsl h.length 0 1 L.length), (9, .v (.int .i64 L.length)), (10, .v (.int .i64 j))], [], h ++ [L.map bU], []⟩) (fun j => j <= L.length) (fun j => L.length - j) 0 (by simp) ?_ ?_
  ·simp [Leq, hh, hF]
  ·intro j hj
   by_cases hlt : j < L.length
   ·have hw : IntKind.i64.wrap ((j : Int) + 1) = (j : Int) + 1 := wrap64 (by omega) (by omega)
    obtain ⟨f1, f2⟩ := hf.2 _ (List.getElem_mem hlt)
    have hsame : (L.map bU).set j (bU L[j]) = L.map bU := by
     refine Rr fun q => ?_
     rw [List.getElem?_set]
     split
     ·rename_i e; subst e; simp [hlt]
     ·rfl
    simp [hlt, xI] at hsame ⊢
    refine aa (by simp) (cR L[j] f1 f2 _) ?_
    have hnext : j + 1 <= L.length := hlt
    simp [hlt, hsame, hw, hnext]
    refine ⟨j + 1, by omega, by omega, ?_⟩
    simp [Leq, hh, hF]
   ·have : j = L.length := by omega
    subst this
    simp [Leq, hh, hz]
 ·simp [hh]
structure Pt where
 text : List UInt8
 oids : List Int
 ps : List Cl
 rows : List (List Cl)
 ran : Bool
 over : Bool
def aT (p : Pt) (x : AV) : List AV := [.v (.string (ah p.text)), .sl 1 (al aN p.oids) none .no, .sl 2 (al aq p.ps) none .no, x, .v (.bool p.ran), .v (.bool p.over)]
def cZ (p : Pt) : List AV := aT p (.sl 1 (al bl p.rows) none .no)
def Pt.fit (p : Pt) : Prop := p.text.length <= 1000000 /\ p.oids.length <= 1000000 /\ (p.ps.length <= 1000000 /\ ∀ c ∈ p.ps, c.2.length <= 140737488351232) /\ RowsFit p.rows
theorem wc {n : Nat} {p : Pt} {x : AV} (hx : x.lt n) : cg n (aT p x) := by simp [aT, hx]
theorem kq {p : Pt} {x : AV} (hx : x.idOf = none) : ∀ c ∈ aT p x, c.idOf = none := by simp [aT, hx]
theorem ub {h : List (List AV)} {p : Pt} {x : AV} (hx : RowsX h x p.rows) (hf : p.fit) : ae Tryz.prog 149 [.agg (aT p x)] h (.agg (cZ p)) h [] := by
 obtain ⟨f1, f2, ⟨f3, f3'⟩, f4⟩ := hf
 have hid := hx.id
 have hun := hx.unown
 have hce := hx.cells
 refine ac KV mixed (by simp [Aq]) fun hh hargs => ?_
 simp [Aq, aT, hun]
 refine aa (by simp) (cH p.text (by omega) _) ?_
 simp
 refine aa (by simp) (iO p.oids (by omega) _) ?_
 simp
 refine aa (by simp) (cR p.ps (by omega) f3' _) ?_
 simp [hid, hun, hce]
 refine aa (by simpa using hid) (tg (hx.app _) f4) ?_
 simp [hid, hun, hce, cZ, aT, hh, af]
def nh (h : List (List AV)) (p : Pt) : List (List AV) := h ++ [aT p (.bsl (h.length + 2) 0 1 p.rows.length), aT p (.bsl (h.length + 2) 0 1 p.rows.length), p.rows.map bU]
theorem Bm {h : List (List AV)} {p : Pt} {x : AV} (hx : RowsX h x p.rows) (hf : p.fit) (hne : p.rows ≠ []) : ae Tryz.prog 149 [.agg (aT p x)] h (.agg (aT p (.bsl (h.length + 2) 0 1 p.rows.length))) (nh h p) [] := by
 obtain ⟨f1, f2, ⟨f3, f3'⟩, f4⟩ := hf
 have hid := hx.id
 have hun := hx.unown
 have hce := hx.cells
 refine ac KV mixed (by simp [Aq]) fun hh hargs => ?_
 have hF := fi
 have hl := aH (Rf h.length 3) hh
 simp [Aq, aT, hun]
 refine aa (by simp) (cH p.text (by omega) _) ?_
 simp
 refine aa (by simp) (iO p.oids (by omega) _) ?_
 simp
 refine aa (by simp) (cR p.ps (by omega) f3' _) ?_
 simp [hid, hun, hce]
 refine aa (by simpa using hid) (mn (hx.app _) hne f4) ?_
 simp [hid, hun, hce, nh, aT, hh, hF, hl]
theorem Bl {h : List (List AV)} {p : Pt} {x : AV} (hx : RowsX h x p.rows) (hf : p.fit) (he : p.rows = []) : ae Tryz.prog 149 [.agg (aT p x)] h (.agg (aT p (.sl 1 [] none .no))) h [] := by
 have := ub hx hf
 unfold cZ at this
 rwa [he] at this
structure PV where
 v : Nat
 p : Pt
 b : Nat
 o : Nat
def sS (x : PV) : List AV := [.box x.v 0]
theorem DK (x : PV) : (sS x).length = 1 := rfl
theorem qT (x : PV) : ∀ c ∈ sS x, c.idOf = none := fun c hc => by unfold sS at hc; rw [Q8.1 hc]; rfl
def iX (x : PV) : AV := if x.p.rows = [] then .sl 1 [] none .no else .bsl x.b x.o 1 x.p.rows.length
def aI (x : PV) : List Nat := if x.p.rows = [] then [x.v] else [x.v, x.b]
theorem cN (x : PV) : x.v ∈ aI x := by unfold aI; split <;> simp
theorem li {x : PV} (h : x.p.rows ≠ []) : x.b ∈ aI x := by unfold aI; rw [if_neg h]; simp
theorem BE (x : PV) : (iX x).idOf = none := by unfold iX; split <;> rfl
structure Ps where
 a : Nat
 clock : Nat
 e : List (KE PV)
def Ps.cells (S : Ps) : List AV := aJ S.clock (S.e.map (KE.ent sS))
def Ps.get (S : Ps) (k : List UInt8) : Option PV := KE.get k S.e
def Ps.put (S : Ps) (k : List UInt8) (x : PV) : Ps := { S with clock := KE.tick k S.clock S.e, e := KE.put k S.clock x S.e }
def Ps.del (S : Ps) (k : List UInt8) : Ps := { S with e := KE.del k S.e }
def Ps.clear (S : Ps) : Ps := { S with e := [] }
def Ps.vars (S : Ps) : List Nat := S.a :: S.e.flatMap fun x => aI x.val
theorem Ps.of_cells (S : Ps) : mapOf 1 S.cells = some (S.clock, S.e.map (KE.ent sS)) := KE.ents_of DK _ _
theorem Ps.keys (S : Ps) : fa none (S.e.map (KE.ent sS)) := KE.ents_keys qT _
theorem Ps.plain (S : Ps) : ∀ c ∈ S.cells, c.idOf = none := KE.ents_plain qT _ _
theorem Ps.mem_vars {S : Ps} {x : KE PV} (hx : x ∈ S.e) {q : Nat} (hq : q ∈ aI x.val) : q ∈ S.vars := List.mem_cons_of_mem _ (Rj.2 ⟨x, hx, hq⟩)
structure PsAt (h : List (List AV)) (i : Nat) (S : Ps) : Prop where
 top : h[i]? = some [.mp S.a 1 true]
 ents : h[S.a]? = some S.cells
 each : ∀ x ∈ S.e, h[x.val.v]? = some (aT x.val.p (iX x.val))
 rows : ∀ x ∈ S.e, x.val.p.rows ≠ [] -> ∃ cs, h[x.val.b]? = some cs /\ (cs.drop x.val.o).take x.val.p.rows.length = x.val.p.rows.map bU /\ x.val.o + x.val.p.rows.length <= cs.length
 sep : ∀ x ∈ S.e, ∀ y ∈ S.e, x.key ≠ y.key -> ∀ q ∈ aI x.val, q ∉ aI y.val
 own : ∀ x ∈ S.e, (aI x.val).Nodup /\ i ∉ aI x.val /\ S.a ∉ aI x.val
 apart : i ≠ S.a
 lt : aR h.length h
structure PsOk (S : Ps) : Prop where
 ok : KE.Ok S.clock S.e
 fit : ∀ x ∈ S.e, x.val.p.fit
theorem cq {β : Type} {clock : Nat} {l : List (KE β)} (ho : KE.Ok clock l) {k : List UInt8} {v : β} {y : KE β} (hy : y ∈ KE.put k clock v l) : (y.key = k /\ y.val = v) \/ (y.key ≠ k /\ y ∈ l) := by
 unfold KE.put at hy
 cases hf : KE.find k l with
 | some s =>
  rw [hf] at hy
  simp only [RB, if_true] at hy
  obtain ⟨x, hx, rfl⟩ := RC.1 hy
  by_cases e : x.key = k
  ·left; unfold KE.upd; rw [if_pos e]; exact ⟨e, rfl⟩
  ·right; unfold KE.upd; rw [if_neg e]; exact ⟨e, hx⟩
 | none =>
  rw [hf] at hy
  rw [if_neg (by simp)] at hy
  rcases List.mem_append.1 hy with hy | hy
  ·exact .inr ⟨KE.find_none hf y hy, hy⟩
  ·rw [Q8.1 hy]; exact .inl ⟨rfl, rfl⟩
theorem cx {β : Type} {l : List (KE β)} {k : List UInt8} {v : β} (hg : KE.get k l = some v) : ∃ x ∈ l, x.key = k /\ x.val = v := by
 unfold KE.get at hg
 cases hf : KE.find k l with
 | none => rw [hf] at hg; cases hg
 | some x =>
  rw [hf] at hg
  injection hg with hg
  exact ⟨x, (KE.find_mem hf).1, (KE.find_mem hf).2, hg⟩
theorem PsOk.put {S : Ps} (ho : PsOk S) (k : List UInt8) {x : PV} (hx : x.p.fit) : PsOk (S.put k x) := ⟨KE.put_ok ho.ok k x, fun y hy => by
 rcases cq ho.ok hy with ⟨_, e⟩ | ⟨_, hy⟩
 ·rw [e]; exact hx
 ·exact ho.fit y hy⟩
theorem PsOk.del {S : Ps} (ho : PsOk S) (k : List UInt8) : PsOk (S.del k) := ⟨KE.del_ok ho.ok k, fun y hy => ho.fit y ((KE.mem_del ho.ok).1 hy).1⟩
theorem PsOk.clear {S : Ps} : PsOk S.clear := ⟨⟨Ro, Ro, fun x hx => by cases hx⟩, fun x hx => by cases hx⟩
theorem PsOk.gfit {S : Ps} (ho : PsOk S) {k : List UInt8} {x : PV} (hg : S.get k = some x) : x.p.fit := by
 obtain ⟨y, hy, _, rfl⟩ := cx hg
 exact ho.fit y hy
section
variable {h : List (List AV)} {i : Nat} {S : Ps}
theorem PsAt.i_lt (hr : PsAt h i S) : i < h.length := (Rb.1 hr.top).1
theorem PsAt.a_lt (hr : PsAt h i S) : S.a < h.length := (Rb.1 hr.ents).1
theorem PsAt.v_lt (hr : PsAt h i S) {x : KE PV} (hx : x ∈ S.e) : x.val.v < h.length := (Rb.1 (hr.each x hx)).1
theorem PsAt.b_lt (hr : PsAt h i S) {x : KE PV} (hx : x ∈ S.e) (hne : x.val.p.rows ≠ []) : x.val.b < h.length := by
 obtain ⟨cs, h1, _⟩ := hr.rows x hx hne
 exact (Rb.1 h1).1
theorem PsAt.var_lt (hr : PsAt h i S) {q : Nat} (hq : q ∈ S.vars) : q < h.length := by
 unfold Ps.vars at hq
 rcases Re.1 hq with rfl | hq
 ·exact hr.a_lt
 ·obtain ⟨x, hx, hq⟩ := Rj.1 hq
  unfold aI at hq
  split at hq
  ·rw [Q8.1 hq]; exact hr.v_lt hx
  ·rename_i hne
   rcases Re.1 hq with rfl | hq
   ·exact hr.v_lt hx
   ·rw [Q8.1 hq]; exact hr.b_lt hx hne
theorem PsAt.i_not (hr : PsAt h i S) : i ∉ S.vars := fun hq => by
 unfold Ps.vars at hq
 rcases Re.1 hq with e | hq
 ·exact hr.apart e
 ·obtain ⟨x, hx, hq⟩ := Rj.1 hq
  exact (hr.own x hx).2.1 hq
theorem PsAt.rowsX (hr : PsAt h i S) {x : KE PV} (hx : x ∈ S.e) : RowsX h (iX x.val) x.val.p.rows := by
 unfold iX
 split
 ·rename_i e; rw [e]; exact .inl rfl
 ·rename_i hne
  obtain ⟨cs, h1, h2, h3⟩ := hr.rows x hx hne
  exact RowsX.bsl h1 h2 h3
theorem PsAt.move (hr : PsAt h i S) {h' : List (List AV)} (hi : h'[i]? = h[i]?) (hs : ∀ q ∈ S.vars, h'[q]? = h[q]?) (hlt : aR h'.length h') : PsAt h' i S :=
 ⟨hi.trans hr.top, (hs _ (Rc ..)).trans hr.ents, fun x hx => (hs _ (Ps.mem_vars hx (cN _))).trans (hr.each x hx), fun x hx hne => by rw [hs _ (Ps.mem_vars hx (li hne))]; exact hr.rows x hx hne, hr.sep, hr.own, hr.apart, hlt⟩
theorem PsAt.app (hr : PsAt h i S) (xs : List (List AV)) (hx : aR (h.length + xs.length) xs) : PsAt (h ++ xs) i S :=
 hr.move (Q7 hr.i_lt) (fun q hq => Q7 (hr.var_lt hq)) (by rw [cV, Rk]; exact ⟨aH (Rf _ _) hr.lt, hx⟩)
theorem PsAt.put (hr : PsAt h i S) (ho : PsOk S) {h' : List (List AV)} {k : List UInt8} {x : PV} (hv : h'[x.v]? = some (aT x.p (iX x)))
  (hrw : x.p.rows ≠ [] -> ∃ cs, h'[x.b]? = some cs /\ (cs.drop x.o).take x.p.rows.length = x.p.rows.map bU /\ x.o + x.p.rows.length <= cs.length) (hent : h'[S.a]? = some (S.put k x).cells)
  (hsame : ∀ q < h.length, q ≠ S.a -> (∀ y ∈ S.e, y.key = k -> q ∉ aI y.val) -> h'[q]? = h[q]?) (hnew : ∀ q ∈ aI x, h.length <= q \/ ∃ y ∈ S.e, y.key = k /\ q ∈ aI y.val) (hnd : (aI x).Nodup) (hlt : aR h'.length h') : PsAt h' i (S.put k x) := by
 have other : ∀ y ∈ S.e, y.key ≠ k -> ∀ q ∈ aI y.val, h'[q]? = h[q]? := fun y hy hk q hq =>
  hsame q (hr.var_lt (Ps.mem_vars hy hq)) (fun e => by subst e; exact (hr.own y hy).2.2 hq) fun z hz hzk hqz => hr.sep y hy z hz (by rw [hzk]; exact hk) q hq hqz
 have nof : ∀ q ∈ aI x, ∀ z ∈ S.e, z.key ≠ k -> q ∉ aI z.val := fun q hq z hz hzk hqz => by
  rcases hnew q hq with h1 | ⟨y, hy, hyk, hqy⟩
  ·have := hr.var_lt (Ps.mem_vars hz hqz); omega
  ·exact hr.sep z hz y hy (by rw [hyk]; exact hzk) q hqz hqy
 refine ⟨?_, hent, fun y hy => ?_, fun y hy hne => ?_, fun y hy z hz hyz q hq => ?_, fun y hy => ?_, hr.apart, hlt⟩
 ·rw [hsame i hr.i_lt hr.apart fun y hy _ => (hr.own y hy).2.1]; exact hr.top
 ·rcases cq ho.ok hy with ⟨_, e⟩ | ⟨hk, hy⟩
  ·rw [e]; exact hv
  ·rw [other y hy hk _ (cN _)]; exact hr.each y hy
 ·rcases cq ho.ok hy with ⟨_, e⟩ | ⟨hk, hy⟩
  ·rw [e] at hne ⊢; exact hrw hne
  ·rw [other y hy hk _ (li hne)]; exact hr.rows y hy hne
 ·rcases cq ho.ok hy with ⟨h1, e⟩ | ⟨h1, hy⟩ <;> rcases cq ho.ok hz with ⟨h2, e2⟩ | ⟨h2, hz⟩
  ·exact absurd (h1.trans h2.symm) hyz
  ·rw [e] at hq; exact nof q hq z hz h2
  ·rw [e2]; exact fun hqx => nof q hqx y hy h1 hq
  ·exact hr.sep y hy z hz hyz q hq
 ·rcases cq ho.ok hy with ⟨_, e⟩ | ⟨hk, hy⟩
  ·rw [e]
   refine ⟨hnd, fun hi => ?_, fun ha => ?_⟩
   ·rcases hnew i hi with h1 | ⟨y, hy, _, hqy⟩
    ·have := hr.i_lt; omega
    ·exact (hr.own y hy).2.1 hqy
   ·rcases hnew S.a ha with h1 | ⟨y, hy, _, hqy⟩
    ·have := hr.a_lt; omega
    ·exact (hr.own y hy).2.2 hqy
  ·exact hr.own y hy
theorem PsAt.less (hr : PsAt h i S) {S' : Ps} (ha : S'.a = S.a) (hs : ∀ x ∈ S'.e, x ∈ S.e) (hlt : cg h.length S'.cells) : PsAt (h.set S.a S'.cells) i S' := by
 refine ⟨?_, ?_, fun x hx => ?_, fun x hx hne => ?_, fun x hx y hy => hr.sep x (hs x hx) y (hs y hy), fun x hx => by rw [ha]; exact hr.own x (hs x hx), by rw [ha]; exact hr.apart, ?_⟩
 ·rw [Q9 (Ne.symm hr.apart), ha]; exact hr.top
 ·rw [ha, Ra hr.a_lt]
 ·rw [Q9 (fun e => (hr.own x (hs x hx)).2.2 (by rw [e]; exact cN _))]; exact hr.each x (hs x hx)
 ·rw [Q9 (fun e => (hr.own x (hs x hx)).2.2 (by rw [e]; exact li hne))]; exact hr.rows x (hs x hx) hne
 ·rw [Rg]; exact ay hr.lt hlt
theorem PsAt.cells_lt (hr : PsAt h i S) {S' : Ps} (hs : ∀ x ∈ S'.e, x.val.v < h.length) : cg h.length S'.cells := oa fun e he => by
 obtain ⟨s, hs2, rfl⟩ := RC.1 he
 have := hs s hs2
 simp [KE.ent, sS, this]
def mf (f : FuncId) (args : List AV) (h : List (List AV)) (i : Nat) (S : Ps) (r : AV) (S' : Ps) : Prop :=
 ∃ h' wr, ae Tryz.prog f args h r h' wr /\ PsAt h' i S' /\ (∀ q ∈ wr, q < h.length -> q ∈ S.vars) /\ h.length <= h'.length /\ (∀ q < h.length, q ∉ S.vars -> h'[q]? = h[q]?) /\ (∀ q ∈ S'.vars, q ∈ S.vars \/ h.length <= q) /\ (bZ h -> bZ h')
theorem Bw {S : Ps} {k : List UInt8} {x x' : PV} (hg : S.get k = some x) (ho : PsOk S) (hv : x'.v = x.v) : (S.put k x').cells = S.cells := by
 obtain ⟨y, hy, hk, rfl⟩ := cx hg
 have hf := KE.find_of ho.ok hy
 rw [hk] at hf
 unfold Ps.put Ps.cells KE.tick KE.put
 dsimp only
 rw [hf]
 simp only [RB, if_true]
 rw [RG]
 congr 1
 refine List.map_congr_left fun z hz => ?_
 show KE.ent sS (KE.upd k x' z) = KE.ent sS z
 unfold KE.upd
 split
 ·rename_i e
  have : z = y := fJ ho.ok.keys hz hy (e.trans hk.symm)
  subst this
  unfold KE.ent sS
  simp only [hv]
 ·rfl
theorem oq {S : Ps} (ho : PsOk S) {k : List UInt8} {x' : PV} {n : Nat} (hnew : ∀ q ∈ aI x', n <= q \/ ∃ y ∈ S.e, y.key = k /\ q ∈ aI y.val) : ∀ q ∈ (S.put k x').vars, q ∈ S.vars \/ n <= q := fun q hq => by
 unfold Ps.vars at hq
 rcases Re.1 hq with e | hq
 ·exact .inl (Re.2 (.inl e))
 ·obtain ⟨y, hy, hq⟩ := Rj.1 hq
  rcases cq ho.ok hy with ⟨_, e⟩ | ⟨_, hy⟩
  ·rw [e] at hq
   rcases hnew q hq with h1 | ⟨z, hz, _, hqz⟩
   ·exact .inr h1
   ·exact .inl (Ps.mem_vars hz hqz)
  ·exact .inl (Ps.mem_vars hy hq)
theorem qG {S S' : Ps} (ha : S'.a = S.a) (hs : ∀ x ∈ S'.e, x ∈ S.e) {n : Nat} : ∀ q ∈ S'.vars, q ∈ S.vars \/ n <= q := fun q hq => by
 unfold Ps.vars at hq
 rcases Re.1 hq with e | hq
 ·exact .inl (Re.2 (.inl (e.trans ha)))
 ·obtain ⟨y, hy, hq⟩ := Rj.1 hq
  exact .inl (Ps.mem_vars (hs y hy) hq)
end
section
variable {h : List (List AV)} {i : Nat} {S : Ps}
theorem Ps.found (S : Ps) (k : List UInt8) : Ax.found true false [.v (.pointer none)] (AEnt.find (.string (ah k)) (S.e.map (KE.ent sS)) 0) = (match S.get k with | some x => .box x.v 0 | none => .v (.pointer none)) := by
 rw [KE.found_eq]
 unfold Ps.get
 cases KE.get k S.e <;> rfl
theorem xz (hr : PsAt h i S) (k : List UInt8) : ae Tryz.prog 74 [.box i 0, .v (.string (ah k))] h (match S.get k with | some x => .box x.v 0 | none => .v (.pointer none)) h [] := by
 have h1 := hr.top
 have h2 := hr.ents
 have h3 := S.of_cells
 have h4 := S.keys
 have h5 := S.found k
 have hv : ∀ x, S.get k = some x -> x.v < h.length := fun x hx => by
  obtain ⟨y, hy, _, rfl⟩ := cx hx
  exact hr.v_lt hy
 refine ac QW mixed (by simp [Mg]) fun hh hargs => ?_
 cases hg : S.get k with
 | none =>
  rw [hg] at h5
  simp only at h5
  simp [Mg, h1, h2, h3, h4, h5, hh]
 | some x =>
  rw [hg] at h5
  simp only at h5
  have := hv x hg
  simp [Mg, h1, h2, h3, h4, h5, hh, this]
theorem lf (hr : PsAt h i S) {k : List UInt8} (hg : S.get k = none) : ae Tryz.prog 74 [.box i 0, .v (.string (ah k))] h (.v (.pointer none)) h [] := by
 have := xz hr k
 rwa [hg] at this
theorem fL (hr : PsAt h i S) {k : List UInt8} {x : PV} (hg : S.get k = some x) : ae Tryz.prog 74 [.box i 0, .v (.string (ah k))] h (.box x.v 0) h [] := by
 have := xz hr k
 rwa [hg] at this
theorem Hg (h : List (List AV)) : ae Tryz.prog 21 [] h (.box (h.length + 1) 0) (h ++ [aJ 0 [], [.mp h.length 1 true]]) [] := by
 refine ac Qr mixed (by simp [Nv]) fun hh hargs => ?_
 have hl := aH (Rf h.length 2) hh
 simp [Nv, hl, aJ]
def L2 : Pt := ⟨[], [], [], [], false, false⟩
theorem Hb (hr : PsAt h i S) {k : List UInt8} (hg : S.get k = none) : ae Tryz.prog 151 [.box i 0, .v (.string (ah k))] h (.tup [.agg (cZ L2), .v (.bool false)]) h [] := by
 have hr' := hr.app [[AV.v (.string (ah [])), .sl 0 [] (some true) .exact, .sl 0 [] (some true) .exact, .sl 0 [] (some true) .exact, .v (.bool false), .v (.bool false)]] (by simp)
 refine ac KW mixed (by simp [Ar]) fun hh hargs => ?_
 simp [Ar]
 refine aa (by simp) (lf hr' hg) ?_
 simp [cZ, aT, L2, hh, af]
theorem Hc (hr : PsAt h i S) (ho : PsOk S) {k : List UInt8} {x : PV} (hg : S.get k = some x) : ae Tryz.prog 151 [.box i 0, .v (.string (ah k))] h (.tup [.agg (cZ x.p), .v (.bool true)]) h [] := by
 have hr' := hr.app [[AV.v (.string (ah [])), .sl 0 [] (some true) .exact, .sl 0 [] (some true) .exact, .sl 0 [] (some true) .exact, .v (.bool false), .v (.bool false)]] (by simp)
 have hfit := ho.gfit hg
 obtain ⟨y, hy, hk, rfl⟩ := cx hg
 have hv := hr'.each y hy
 have hrx := hr'.rowsX hy
 have hun : (aT y.val.p (iX y.val)).map AV.unown = aT y.val.p (iX y.val) := by simp [aT, hrx.unown]
 have hlen : (aT y.val.p (iX y.val)).length = 6 := rfl
 have htk : RD 6 (aT y.val.p (iX y.val)) = aT y.val.p (iX y.val) := rfl
 have htm : RD 6 (List.map AV.unown (aT y.val.p (iX y.val))) = aT y.val.p (iX y.val) := by rw [hun, htk]
 have hidx : ∀ c ∈ [AV.agg (aT y.val.p (iX y.val))], c.idOf = none := fun c hc => by rw [Q8.1 hc]; rfl
 refine ac KW mixed (by simp [Ar]) fun hh hargs => ?_
 simp [Ar]
 refine aa (by simp) (fL hr' hg) ?_
 simp [hv, hlen, hun, htk, htm]
 refine aa hidx (ub hrx hfit) ?_
 simp [cZ, aT, hh, af]
theorem G9 (hr : PsAt h i S) {k : List UInt8} (hg : S.get k = none) : ae Tryz.prog 41 [.box i 0, .v (.string (ah k))] h (.v (.bool false)) h [] := by
 refine ac PZ mixed (by simp [Kv]) fun hh hargs => ?_
 simp [Kv]
 refine aa (by simp) (lf hr hg) ?_
 simp [hh]
theorem Ha (hr : PsAt h i S) {k : List UInt8} {x : PV} (hg : S.get k = some x) : ae Tryz.prog 41 [.box i 0, .v (.string (ah k))] h (.v (.bool true)) (h.set S.a (S.del k).cells) [S.a] := by
 have h1 := hr.top
 have h2 := hr.ents
 have h3 := S.of_cells
 have h4 := S.keys
 have hdel : aJ S.clock (AEnt.del (.string (ah k)) (S.e.map (KE.ent sS))) = (S.del k).cells := by rw [KE.del_eq]; rfl
 have hl2 : cg h.length (S.del k).cells := hr.cells_lt fun x hx => hr.v_lt (Rv hx)
 refine ac PZ mixed (by simp [Kv]) fun hh hargs => ?_
 simp [Kv]
 refine aa (by simp) (fL hr hg) ?_
 simp [h1, h2, h3, h4, hdel, ay, hh, hl2, aY]
theorem Bn (hr : PsAt h i S) (k : List UInt8) : mf 41 [.box i 0, .v (.string (ah k))] h i S (.v (.bool (S.get k).isSome)) (S.del k) := by
 cases hg : S.get k with
 | none =>
  have e : S.del k = S := by
   unfold Ps.del
   have : KE.del k S.e = S.e := List.eraseP_of_forall_not fun x hx => by
    have := KE.get_none_iff.1 hg x hx
    simpa using this
   rw [this]
  rw [e]
  exact ⟨h, [], G9 hr hg, hr, (fun q hq => by cases hq), Ru _, (fun _ _ _ => rfl), (fun q hq => .inl hq), fun h => h⟩
 | some x =>
  have hs : ∀ x ∈ (S.del k).e, x ∈ S.e := fun x hx => Rv hx
  refine ⟨_, _, Ha hr hg, hr.less rfl hs (hr.cells_lt fun x hx => hr.v_lt (hs x hx)), fun q hq _ => by rw [Q8.1 hq]; exact Rc .., by simp, fun q hq hn => ?_, qG (S := S) (S' := S.del k) rfl hs, fun hp => bz hp (S.del k).plain _⟩
  exact Q9 fun e => hn (by rw [<- e]; exact Rc ..)
theorem Bj (hr : PsAt h i S) : ae Tryz.prog 40 [.box i 0] h (.tup []) (h.set S.a S.clear.cells) [S.a] := by
 have h1 := hr.top
 have h2 := hr.ents
 have h3 := S.of_cells
 have hc : S.clear.cells = aJ S.clock [] := rfl
 have hl2 : cg h.length S.clear.cells := hr.cells_lt fun x hx => by cases hx
 rw [hc] at hl2 ⊢
 refine ac QD mixed (by simp [NB]) fun hh hargs => ?_
 simp [NB, h1, h2, h3, ay, hh, hl2, aY]
theorem og (hr : PsAt h i S) : mf 40 [.box i 0] h i S (.tup []) S.clear := by
 have hs : ∀ x ∈ S.clear.e, x ∈ S.e := fun x hx => by cases hx
 refine ⟨_, _, Bj hr, hr.less rfl hs (hr.cells_lt fun x hx => hr.v_lt (hs x hx)), fun q hq _ => by rw [Q8.1 hq]; exact Rc .., by simp, fun q hq hn => ?_, qG (S := S) (S' := S.clear) rfl hs, fun hp => bz hp S.clear.plain _⟩
 exact Q9 fun e => hn (by rw [<- e]; exact Rc ..)
theorem wb (hr : PsAt h i S) {k : List UInt8} (hk : k ≠ []) {x : PV} (hg : S.get k = some x) (p : Pt) : ae Tryz.prog 87 [.box i 0, .v (.string (ah k)), .agg (cZ p)] h (.v (.int .i64 8)) h [] := by
 have h1 := hr.top
 have hr' := hr.app [cZ p] (by simp [cZ, aT])
 have h1' := hr'.top
 have hk' : (k == []) = false := by simpa using hk
 refine ac Py mixed (by simp [C9]) fun hh hargs => ?_
 have hun : (cZ p).map AV.unown = cZ p := rfl
 simp [C9, hun, h1', hk, hk']
 refine aa (by simp) (fL hr' hg) ?_
 simp [hh, af]
end
section
variable {h : List (List AV)} {i : Nat} {S : Ps}
theorem Bv (S : Ps) (ho : PsOk S) (k : List UInt8) (x : PV) : aJ (AEnt.put (.string (ah k)) S.clock [.box x.v 0] (S.e.map (KE.ent sS))).2 (AEnt.put (.string (ah k)) S.clock [.box x.v 0] (S.e.map (KE.ent sS))).1 = (S.put k x).cells := by
 have := KE.put_eq sS ho.ok k x
 have e : sS x = [.box x.v 0] := rfl
 rw [e] at this
 rw [this]; rfl
theorem sp (hr : PsAt h i S) (ho : PsOk S) (k : List UInt8) {x : PV} {n : Nat} (hx : x.v < n) (hn : h.length <= n) : cg n (S.put k x).cells := oa fun e he => by
 obtain ⟨y, hy, rfl⟩ := RC.1 he
 rcases cq ho.ok hy with ⟨_, e⟩ | ⟨_, hy⟩
 ·have : y.val.v < n := by rw [e]; exact hx
  simp [KE.ent, sS, this]
 ·have := hr.v_lt hy
  have : y.val.v < n := by omega
  simp [KE.ent, sS, this]
def bK (h : List (List AV)) (p : Pt) : PV := if p.rows = [] then ⟨h.length + 1, p, 0, 0⟩ else ⟨h.length + 4, p, h.length + 3, 0⟩
def qb (h : List (List AV)) (S : Ps) (k : List UInt8) (p : Pt) : List (List AV) :=
 if p.rows = [] then h.set S.a (S.put k (bK h p)).cells ++ [cZ p, aT p (.sl 1 [] none .no)]
 else h.set S.a (S.put k (bK h p)).cells ++ [cZ p, aT p (.bsl (h.length + 3) 0 1 p.rows.length), aT p (.bsl (h.length + 3) 0 1 p.rows.length), p.rows.map bU, aT p (.bsl (h.length + 3) 0 1 p.rows.length)]
set_option maxHeartbeats 1000000 in
theorem Hh (hr : PsAt h i S) (ho : PsOk S) {k : List UInt8} (hk : k.length <= 1000000) (hc : k = [] \/ S.get k = none) {p : Pt} (hf : p.fit) : ae Tryz.prog 87 [.box i 0, .v (.string (ah k)), .agg (cZ p)] h (.v (.int .i64 0)) (qb h S k p) [S.a] := by
 have hr' := hr.app [cZ p] (by simp [cZ, aT])
 have h1' := hr'.top
 have e1 : ∀ xs, (h ++ xs)[i]? = some [.mp S.a 1 true] := fun xs => by rw [Q7 hr.i_lt]; exact hr.top
 have e2 : ∀ xs, (h ++ xs)[S.a]? = some S.cells := fun xs => by rw [Q7 hr.a_lt]; exact hr.ents
 have e3 : ∀ xs cs, (h ++ xs).set S.a cs = h.set S.a cs ++ xs := fun xs cs => Rm _ _ hr.a_lt
 have h3 := S.of_cells
 have h4 := S.keys
 have hun : (cZ p).map AV.unown = cZ p := rfl
 have hlen : (cZ p).length = 6 := rfl
 have htk : RD 6 (cZ p) = cZ p := rfl
 have hput := Bv S ho k (bK h p)
 have hF := fi
 have hpt : ∀ n, cg n (cZ p) := fun n => by simp [cZ, aT]
 by_cases hrows : p.rows = []
 ·have hpc := Bl (h := h ++ [cZ p]) (p := p) (x := .sl 1 (al bl p.rows) none .no) (.inl rfl) hf hrows
  have hx : bK h p = ⟨h.length + 1, p, 0, 0⟩ := by unfold bK; rw [if_pos hrows]
  have hpl := sp hr ho k (x := bK h p) (n := h.length + 2) (by rw [hx]; simp) (by omega)
  have hH : qb h S k p = h.set S.a (S.put k (bK h p)).cells ++ [cZ p, aT p (.sl 1 [] none .no)] := by unfold qb; rw [if_pos hrows]
  rw [hH]
  have hv : (bK h p).v = h.length + 1 := by rw [hx]
  rw [hv] at hput
  refine ac Py mixed (by simp [C9]) fun hh hargs => ?_
  have hl := ay (i := S.a) (aH (Rf h.length 2) hh) hpl
  by_cases hk0 : k = []
  ·subst hk0
   simp [C9, hun, hlen, htk, e1]
   refine aa (by intro c hc; rw [Q8.1 hc]; rfl) hpc ?_
   simp [e1, aT, hun, hlen, htk]
   refine aa (by simp) (cH [] (by simp) _) ?_
   simp [e1, e2, e3, h3, h4, hput, aT, hl, hpt]
  ·have hk' : (k == []) = false := by simpa using hk0
   have hg := hc.resolve_left hk0
   simp [C9, hun, hlen, htk, e1, hk0, hk']
   refine aa (by simp) (lf hr' hg) ?_
   simp [hlen, hun, htk]
   refine aa (by intro c hc; rw [Q8.1 hc]; rfl) hpc ?_
   simp [e1, aT, hun, hlen, htk]
   refine aa (by simp) (cH k (by omega) _) ?_
   simp [e1, e2, e3, h3, h4, hput, aT, hl, hpt]
 ·have hpc := Bm (h := h ++ [cZ p]) (p := p) (x := .sl 1 (al bl p.rows) none .no) (.inl rfl) hf hrows
  have hx : bK h p = ⟨h.length + 4, p, h.length + 3, 0⟩ := by unfold bK; rw [if_neg hrows]
  have hpl := sp hr ho k (x := bK h p) (n := h.length + 5) (by rw [hx]; simp) (by omega)
  have hH : qb h S k p = h.set S.a (S.put k (bK h p)).cells ++ [cZ p, aT p (.bsl (h.length + 3) 0 1 p.rows.length), aT p (.bsl (h.length + 3) 0 1 p.rows.length), p.rows.map bU, aT p (.bsl (h.length + 3) 0 1 p.rows.length)] := by unfold qb; rw [if_neg hrows]
  rw [hH]
  have hv : (bK h p).v = h.length + 4 := by rw [hx]
  rw [hv] at hput
  have hpH : nh (h ++ [cZ p]) p = h ++ [cZ p, aT p (.bsl (h.length + 3) 0 1 p.rows.length), aT p (.bsl (h.length + 3) 0 1 p.rows.length), p.rows.map bU] := by unfold nh; simp
  rw [hpH] at hpc
  have hlen1 : (h ++ [cZ p]).length + 2 = h.length + 3 := by simp
  rw [hlen1] at hpc
  refine ac Py mixed (by simp [C9]) fun hh hargs => ?_
  have hl := ay (i := S.a) (aH (Rf h.length 5) hh) hpl
  by_cases hk0 : k = []
  ·subst hk0
   simp [C9, hun, hlen, htk, e1]
   refine aa (by intro c hc; rw [Q8.1 hc]; rfl) hpc ?_
   simp [e1, aT, hun, hlen, htk]
   refine aa (by simp) (cH [] (by simp) _) ?_
   simp [e1, e2, e3, h3, h4, hput, aT, hl, hpt, hF]
  ·have hk' : (k == []) = false := by simpa using hk0
   have hg := hc.resolve_left hk0
   simp [C9, hun, hlen, htk, e1, hk0, hk']
   refine aa (by simp) (lf hr' hg) ?_
   simp [hlen, hun, htk]
   refine aa (by intro c hc; rw [Q8.1 hc]; rfl) hpc ?_
   simp [e1, aT, hun, hlen, htk]
   refine aa (by simp) (cH k (by omega) _) ?_
   simp [e1, e2, e3, h3, h4, hput, aT, hl, hpt, hF]
theorem Hi (hr : PsAt h i S) (ho : PsOk S) {k : List UInt8} (hk : k.length <= 1000000) (hc : k = [] \/ S.get k = none) {p : Pt} (hf : p.fit) : ∃ x : PV, x.p = p /\ mf 87 [.box i 0, .v (.string (ah k)), .agg (cZ p)] h i S (.v (.int .i64 0)) (S.put k x) := by
 have ha := hr.a_lt
 have hF := fi
 have hptid : ∀ x : AV, x.idOf = none -> ∀ c ∈ aT p x, c.idOf = none := fun x hx => kq hx
 refine ⟨bK h p, by unfold bK; split <;> rfl, qb h S k p, [S.a], Hh hr ho hk hc hf, ?_⟩
 by_cases hrows : p.rows = []
 ·have hx : bK h p = ⟨h.length + 1, p, 0, 0⟩ := by unfold bK; rw [if_pos hrows]
  have hH : qb h S k p = h.set S.a (S.put k (bK h p)).cells ++ [cZ p, aT p (.sl 1 [] none .no)] := by unfold qb; rw [if_pos hrows]
  have hpv : aI (bK h p) = [h.length + 1] := by rw [hx]; unfold aI; rw [if_pos hrows]
  have hpl := sp hr ho k (x := bK h p) (n := h.length + 2) (by rw [hx]; simp) (by omega)
  have hro : iX (bK h p) = .sl 1 [] none .no := by rw [hx]; unfold iX; rw [if_pos hrows]
  have hpx : (bK h p).p = p := by rw [hx]
  have hpvv : (bK h p).v = h.length + 1 := by rw [hx]
  have hnew : ∀ q ∈ aI (bK h p), h.length <= q \/ ∃ y ∈ S.e, y.key = k /\ q ∈ aI y.val := fun q hq => by rw [hpv, Q8] at hq; left; omega
  have hlen : (h.set S.a (S.put k (bK h p)).cells).length = h.length := Rg
  rw [hH]
  refine ⟨hr.put ho (x := bK h p) ?_ ?_ ?_ ?_ hnew ?_ ?_, fun q hq _ => by rw [Q8.1 hq]; exact Rc .., by simp, fun q hq hn => ?_, oq ho hnew, fun hp => cG (bz hp (S.put k (bK h p)).plain _) ?_⟩
  ·rw [hpvv, hpx, hro, Rh (by omega), hlen]; simp
  ·rw [hpx]; exact fun hne => absurd hrows hne
  ·rw [Q7 (by omega), Ra ha]
  ·intro q hq hqa _
   rw [Q7 (by omega), Q9 (Ne.symm hqa)]
  ·rw [hpv]; simp
  ·rw [cV, Rk, hlen]
   exact ⟨ay (aH (Rf _ _) hr.lt) hpl, by simp [cZ, aT]⟩
  ·rw [Q7 (by omega), Q9 (fun e => hn (by rw [<- e]; exact Rc ..))]
  ·intro x hx2
   rcases Re.1 hx2 with rfl | hx2
   ·exact hptid _ rfl
   ·rw [Q8.1 hx2]; exact hptid _ rfl
 ·have hx : bK h p = ⟨h.length + 4, p, h.length + 3, 0⟩ := by unfold bK; rw [if_neg hrows]
  have hH : qb h S k p = h.set S.a (S.put k (bK h p)).cells ++ [cZ p, aT p (.bsl (h.length + 3) 0 1 p.rows.length), aT p (.bsl (h.length + 3) 0 1 p.rows.length), p.rows.map bU, aT p (.bsl (h.length + 3) 0 1 p.rows.length)] := by unfold qb; rw [if_neg hrows]
  have hpv : aI (bK h p) = [h.length + 4, h.length + 3] := by rw [hx]; unfold aI; rw [if_neg hrows]
  have hpl := sp hr ho k (x := bK h p) (n := h.length + 5) (by rw [hx]; simp) (by omega)
  have hro : iX (bK h p) = .bsl (h.length + 3) 0 1 p.rows.length := by rw [hx]; unfold iX; rw [if_neg hrows]
  have hpx : (bK h p).p = p := by rw [hx]
  have hpvv : (bK h p).v = h.length + 4 := by rw [hx]
  have hpb : (bK h p).b = h.length + 3 := by rw [hx]
  have hpo : (bK h p).o = 0 := by rw [hx]
  have hnew : ∀ q ∈ aI (bK h p), h.length <= q \/ ∃ y ∈ S.e, y.key = k /\ q ∈ aI y.val := fun q hq => by rw [hpv] at hq; left; simp at hq; omega
  have hlen : (h.set S.a (S.put k (bK h p)).cells).length = h.length := Rg
  rw [hH]
  refine ⟨hr.put ho (x := bK h p) ?_ ?_ ?_ ?_ hnew ?_ ?_, fun q hq _ => by rw [Q8.1 hq]; exact Rc .., by simp, fun q hq hn => ?_, oq ho hnew, fun hp => cG (bz hp (S.put k (bK h p)).plain _) ?_⟩
  ·rw [hpvv, hpx, hro, Rh (by omega), hlen]; simp
  ·rw [hpx, hpb, hpo]
   refine fun _ => ⟨p.rows.map bU, ?_, ?_, ?_⟩
   ·rw [Rh (by omega), hlen]; simp
   ·rw [RF, Rw (by simp)]
   ·simp
  ·rw [Q7 (by omega), Ra ha]
  ·intro q hq hqa _
   rw [Q7 (by omega), Q9 (Ne.symm hqa)]
  ·rw [hpv]; simp
  ·rw [cV, Rk, hlen]
   exact ⟨ay (aH (Rf _ _) hr.lt) hpl, by simp [cZ, aT, hF]⟩
  ·rw [Q7 (by omega), Q9 (fun e => hn (by rw [<- e]; exact Rc ..))]
  ·intro x hx2
   simp only [Re, List.not_mem_nil, or_false] at hx2
   rcases hx2 with rfl | rfl | rfl | rfl | rfl
   ·exact hptid _ rfl
   ·exact hptid _ rfl
   ·exact hptid _ rfl
   ·exact ox _
   ·exact hptid _ rfl
end
section
variable {h : List (List AV)} {i : Nat} {S : Ps}
theorem PsAt.turn (hr : PsAt h i S) (ho : PsOk S) {k : List UInt8} {y : KE PV} (hy : y ∈ S.e) (hk : y.key = k) {x' : PV} (hxv : x'.v = y.val.v) {h' : List (List AV)} (hl : h.length <= h'.length) (hv : h'[y.val.v]? = some (aT x'.p (iX x')))
  (hrw : x'.p.rows ≠ [] -> ∃ cs, h'[x'.b]? = some cs /\ (cs.drop x'.o).take x'.p.rows.length = x'.p.rows.map bU /\ x'.o + x'.p.rows.length <= cs.length) (hsame : ∀ q < h.length, q ∉ aI y.val -> h'[q]? = h[q]?)
  (hb : x'.p.rows ≠ [] -> h.length <= x'.b \/ (x'.b = y.val.b /\ y.val.p.rows ≠ [])) (hlt : aR h'.length h') (hp : bZ h -> bZ h') :
  PsAt h' i (S.put k x') /\ (∀ q ∈ aI y.val, q < h.length -> q ∈ S.vars) /\ h.length <= h'.length /\ (∀ q < h.length, q ∉ S.vars -> h'[q]? = h[q]?) /\ (∀ q ∈ (S.put k x').vars, q ∈ S.vars \/ h.length <= q) /\ (bZ h -> bZ h') := by
 have hg : S.get k = some y.val := (KE.get_iff ho.ok).2 ⟨y, hy, hk, rfl⟩
 have hnew : ∀ q ∈ aI x', h.length <= q \/ ∃ y ∈ S.e, y.key = k /\ q ∈ aI y.val := fun q hq => by
  unfold aI at hq
  split at hq
  ·rw [Q8.1 hq, hxv]; exact .inr ⟨y, hy, hk, cN _⟩
  ·rename_i hne
   rcases Re.1 hq with rfl | hq
   ·rw [hxv]; exact .inr ⟨y, hy, hk, cN _⟩
   ·rw [Q8.1 hq]
    rcases hb hne with h1 | ⟨h1, h2⟩
    ·exact .inl h1
    ·rw [h1]; exact .inr ⟨y, hy, hk, li h2⟩
 have hnd : (aI x').Nodup := by
  unfold aI
  split
  ·simp
  ·rename_i hne
   have : x'.v ≠ x'.b := by
    rw [hxv]
    rcases hb hne with h1 | ⟨h1, h2⟩
    ·have := hr.v_lt hy; omega
    ·have hn := (hr.own y hy).1
     unfold aI at hn
     rw [if_neg h2] at hn
     rw [h1]
     intro e
     simp [e] at hn
   simp [this]
 refine ⟨hr.put ho (by rw [hxv]; exact hv) hrw ?_ (fun q hq hqa hqy => hsame q hq (hqy y hy hk)) hnew hnd hlt, fun q hq _ => Ps.mem_vars hy hq, hl, fun q hq hn => hsame q hq fun hqy => hn (Ps.mem_vars hy hqy), oq ho hnew, hp⟩
 rw [Bw hg ho hxv, hsame S.a hr.a_lt (hr.own y hy).2.2]
 exact hr.ents
def lj (p : Pt) (L : List (List Cl)) : Pt := { p with ran := true, rows := L }
theorem Hj (hr : PsAt h i S) (ho : PsOk S) {k : List UInt8} {x : PV} (hg : S.get k = some x) (hran : x.p.ran = false) {L : List (List Cl)} (hf : RowsFit L) : mf 91 [.box i 0, .v (.string (ah k)), .sl 1 (al bl L) none .no] h i S (.v (.bool true)) (S.put k ⟨x.v, lj x.p L, h.length, 0⟩) := by
 obtain ⟨y, hy, hk, rfl⟩ := cx hg
 have hv := hr.each y hy
 have hvl := hr.v_lt hy
 have hroid := BE y.val
 have e1 : ∀ xs, (h ++ xs)[y.val.v]? = some (aT y.val.p (iX y.val)) := fun xs => by rw [Q7 hvl]; exact hv
 have e3 : ∀ xs cs, (h ++ xs).set y.val.v cs = h.set y.val.v cs ++ xs := fun xs cs => Rm _ _ hvl
 have e4 : ∀ X, (h.set y.val.v X)[y.val.v]? = some X := fun X => Ra hvl
 have e5 : ∀ X xs, (h.set y.val.v X ++ xs)[y.val.v]? = some X := fun X xs => by rw [Q7 (by simpa using hvl), e4]
 have e6 : ∀ X xs cs, (h.set y.val.v X ++ xs).set y.val.v cs = h.set y.val.v cs ++ xs := fun X xs cs => by rw [Rm _ _ (by simpa using hvl), List.set_set]
 have hF := fi
 by_cases hL : L = []
 ·subst hL
  have hset : cg h.length (aT (lj y.val.p []) (.sl 1 [] none .no)) := by simp [aT]
  refine ⟨h.set y.val.v (aT (lj y.val.p []) (.sl 1 [] none .no)), aI y.val, ?_, hr.turn ho hy hk (x' := ⟨y.val.v, lj y.val.p [], h.length, 0⟩) rfl (by simp) ?_ (fun hne => absurd rfl hne) (fun q hq hn => Q9 fun e => hn (by rw [<- e]; exact cN _)) (fun hne => absurd rfl hne) (by rw [Rg]; exact ay hr.lt hset) (fun hp => bz hp (kq rfl) _)⟩
  ·refine ac P3 mixed (by simp [Ky]) fun hh hargs => ?_
   have hl := ay (i := y.val.v) hh hset
   have hpv := cN y.val
   simp [Ky]
   refine aa (by simp) (fL hr hg) ?_
   simp [hv, aT, hran]
   refine aa (by simp) (mm (.inl rfl)) ?_
   have hl' := hl
   simp only [aT, lj] at hl'
   simp [hv, e4, aT, lj, hl', hpv]
  ·rw [Ra hvl]; rfl
 ·have hro : iX ⟨y.val.v, lj y.val.p L, h.length, 0⟩ = .bsl h.length 0 1 L.length := by unfold iX; exact if_neg hL
  have hset : cg (h.length + 1) (aT (lj y.val.p L) (.bsl h.length 0 1 L.length)) := by simp [aT]
  have hset1 : aR (h.length + 1) (h.set y.val.v (aT (lj y.val.p L) (.bsl h.length 0 1 L.length))) := ay (aH (Rf h.length 1) hr.lt) hset
  refine ⟨h.set y.val.v (aT (lj y.val.p L) (.bsl h.length 0 1 L.length)) ++ [L.map bU], aI y.val, ?_, hr.turn ho hy hk (x' := ⟨y.val.v, lj y.val.p L, h.length, 0⟩) rfl (by simp) ?_ (fun _ => ⟨L.map bU, ?_, ?_, ?_⟩) (fun q hq hn => ?_) (fun _ => .inl (Ru _)) ?_ (fun hp => cG (bz hp (kq rfl) _) ?_)⟩
  ·refine ac P3 mixed (by simp [Ky]) fun hh hargs => ?_
   have hpv := cN y.val
   simp [Ky]
   refine aa (by simp) (fL hr hg) ?_
   simp [hv, aT, hran]
   refine aa (by simp) (mn (.inl rfl) hL hf) ?_
   have hl' := hset1
   simp only [aT, lj] at hl'
   simp [e1, e3, e5, e6, aT, lj, hl', hpv, hF]
  ·rw [Q7 (by simpa using hvl), Ra hvl, hro]
  ·rw [Rh (by simp)]; simp
  ·show (List.drop 0 (L.map bU)).take L.length = L.map bU
   rw [RF, Rw (by simp)]
  ·show 0 + L.length <= (L.map bU).length
   simp
  ·rw [Q7 (by simpa using hq), Q9 fun e => hn (by rw [<- e]; exact cN _)]
  ·rw [cV, Rk, Rg]
   exact ⟨hset1, by simp [hF]⟩
  ·intro z hz; rw [Q8.1 hz]; exact ox _
end
section
variable {h : List (List AV)} {i : Nat} {S : Ps}
def sh : AV := .sl 0 [] (some true) .exact
theorem DJ {v : Nat} {p : Pt} (hv : h[v]? = some (aT p (.sl 1 [] none .no))) : ae Tryz.prog 154 [.box v 0, .v (.int .i64 0)] h (.sl 1 [] none .no) h [v] := by
 have hvl := (Rb.1 hv).1
 have hs : h.set v (aT p (.sl 1 [] none .no)) = h := by
  obtain ⟨h1, h2⟩ := Rb.1 hv
  rw [<- h2, List.set_getElem_self]
 simp only [aT] at hs
 refine ac KX mixed (by simp [c154]) fun hh hargs => ?_
 simp [c154, hv, aT]
 refine aa (by simp) (mq (.inl rfl)) ?_
 simp [hv, aT, hs, hh]
set_option maxHeartbeats 1000000 in
theorem DI {v b o n : Nat} {p : Pt} {cs : List AV} (hv : h[v]? = some (aT p (.bsl b o 1 p.rows.length))) (hb : h[b]? = some cs) (hd : (cs.drop o).take p.rows.length = p.rows.map bU) (ho : o + p.rows.length <= cs.length) (hne : v ≠ b) (hn : 1 <= n) (hnl : n <= p.rows.length) (hl : p.rows.length <= 1000000) :
  ae Tryz.prog 154 [.box v 0, .v (.int .i64 (n : Int))] h (.sl 1 (al bl (p.rows.take n)) none .no) ((h.set b (lay cs o (Ri n sh))).set v (aT p (.bsl b (o + n) 1 (p.rows.length - n)))) [v, b] := by
 have hvl := (Rb.1 hv).1
 have hbl := (Rb.1 hb).1
 obtain ⟨L, hL⟩ : ∃ L, L = p.rows.take n := ⟨_, rfl⟩
 have hLl : L.length = n := by rw [hL, List.length_take]; omega
 have hLne : L ≠ [] := fun e => by rw [e] at hLl; simp at hLl; omega
 have hx : RowsX h (.bsl b o 1 n) L := by
  refine .inr ⟨b, o, cs, by rw [hLl], hb, ?_, by omega⟩
  have := congrArg (RD n) hd
  rw [List.take_take, Nat.min_eq_left hnl, <- List.map_take, <- hL] at this
  rw [hLl, this]
 have hcl := iD hx hLne (by omega)
 rw [hLl] at hcl
 have hz := qX L h.length
 rw [hLl] at hz
 have hF := fun n => fi n L
 have hbv : ∀ X, (h.set b X)[v]? = some (aT p (.bsl b o 1 p.rows.length)) := fun X => by rw [Q9 (Ne.symm hne)]; exact hv
 have hon : o + n <= cs.length := by omega
 have ht : ((p.rows.length : Int) - (n : Int)).toNat = p.rows.length - n := by omega
 have hnl' : (n : Int) <= (p.rows.length : Int) := by omega
 rw [<- hL]
 refine bR (XCode.cuts [false, true] c154.code) KX rfl mixed (by simp [c154]) fun hh hargs => ?_
 simp [c154]
 refine pH h.length (L.map bU) ⟨[(0, .box v 0), (1, .v (.int .i64 (n : Int))), (5, .sl 1 (al bl L) none .no)], [], h, []⟩ (Ru _) (uk L hLne) ?_ ?_
 ·simp [hv, aT]
  refine ⟨hnl, ?_⟩
  refine aa (by simp) hcl ?_
  simp [Leq, hh, hz, hvl]
 ·have hlt1 : cg h.length (lay cs o (Ri n sh)) := by
   have hcs : cg h.length cs := dV hh _ _ hb
   exact cE fun j c hj => by
    rcases kV _ _ _ _ (Rn hj) with h1 | h1
    ·obtain ⟨q, hq⟩ := Rz h1
     exact cd hcs q c hq
    ·rw [Rl h1]; trivial
  have hlt2 : aR h.length (h.set b (lay cs o (Ri n sh))) := ay hh hlt1
  have hlt3 : aR h.length ((h.set b (lay cs o (Ri n sh))).set v (aT p (.bsl b (o + n) 1 (p.rows.length - n)))) := by
   refine ay hlt2 ?_
   simp [aT, hbl]
  simp only [aT, sh] at hlt3
  simp [hv, hb, hbv, aT, sh, hon, hnl, hnl', ht, hh, hlt3]
  exact af (by simp)
def eV (most : Int) (len : Nat) : Nat := if most < 1 then len else min most.toNat len
theorem yQ (most : Int) (len : Nat) : eV most len <= len := by unfold eV; split <;> omega
theorem vz {most : Int} {len : Nat} (h : 1 <= len) : 1 <= eV most len := by unfold eV; split <;> omega
theorem yR (most : Int) (len : Nat) : zc (if most < 1 then (len : Int) else most) [(len : Int)] = (eV most len : Int) := by
 unfold eV zc
 simp only [List.foldl]
 by_cases h : most < 1
 ·simp [h]
 ·rw [if_neg h, if_neg h]
  split <;> omega
def bd (p : Pt) (n : Nat) : Pt := { p with rows := p.rows.drop n, over := decide (p.rows.drop n = []) }
def rW (x : PV) (most : Int) : PV := ⟨x.v, bd x.p (eV most x.p.rows.length), x.b, x.o + eV most x.p.rows.length⟩
theorem Bp (hr : PsAt h i S) {k : List UInt8} (hg : S.get k = none) (most : Int) : ae Tryz.prog 92 [.box i 0, .v (.string (ah k)), .v (.int .i64 most)] h (.tup [.sl 1 (al bl []) none .no, .v (.bool false)]) h [] := by
 refine ac MB mixed (by simp [Da]) fun hh hargs => ?_
 simp [Da]
 refine aa (by simp) (lf hr hg) ?_
 simp [hh]
theorem zj (hr : PsAt h i S) {k : List UInt8} {x : PV} (hg : S.get k = some x) (hno : x.p.ran = false \/ x.p.over = true) (most : Int) : ae Tryz.prog 92 [.box i 0, .v (.string (ah k)), .v (.int .i64 most)] h (.tup [.sl 1 (al bl []) none .no, .v (.bool false)]) h [] := by
 obtain ⟨y, hy, hk, rfl⟩ := cx hg
 have hv := hr.each y hy
 refine ac MB mixed (by simp [Da]) fun hh hargs => ?_
 simp [Da]
 refine aa (by simp) (fL hr hg) ?_
 cases hran : y.val.p.ran with
 | false => simp [hv, aT, hran, hh]
 | true =>
  have hov : y.val.p.over = true := by simpa [hran] using hno
  simp [hv, aT, hran, hov, hh]
set_option maxHeartbeats 1000000 in
theorem Bo (hr : PsAt h i S) (ho : PsOk S) {k : List UInt8} {x : PV} (hg : S.get k = some x) (hran : x.p.ran = true) (hov : x.p.over = false) (most : Int) :
  mf 92 [.box i 0, .v (.string (ah k)), .v (.int .i64 most)] h i S (.tup [.sl 1 (al bl (x.p.rows.take (eV most x.p.rows.length))) none .no, .v (.bool (!decide (x.p.rows.drop (eV most x.p.rows.length) = [])))]) (S.put k (rW x most)) := by
 have hfit := ho.gfit hg
 obtain ⟨y, hy, hk, rfl⟩ := cx hg
 have hv := hr.each y hy
 have hvl := hr.v_lt hy
 have e4 : ∀ X, (h.set y.val.v X)[y.val.v]? = some X := fun X => Ra hvl
 obtain ⟨_, _, _, hl1, _⟩ := hfit
 have hmin := yR most y.val.p.rows.length
 have hle := yQ most y.val.p.rows.length
 obtain ⟨n, hn⟩ : ∃ n, n = eV most y.val.p.rows.length := ⟨_, rfl⟩
 have hfx : rW y.val most = ⟨y.val.v, bd y.val.p n, y.val.b, y.val.o + n⟩ := by unfold rW; rw [<- hn]
 rw [hfx, <- hn]
 rw [<- hn] at hmin hle
 by_cases hrows : y.val.p.rows = []
 ·have hro : iX y.val = .sl 1 [] none .no := by unfold iX; rw [if_pos hrows]
  rw [hro] at hv
  have hn0 : n = 0 := by rw [hrows] at hle; simpa using hle
  subst hn0
  have htk := DJ hv
  have hset : cg h.length (aT (bd y.val.p 0) (.sl 1 [] none .no)) := by simp [aT]
  have hf0 : (bd y.val.p 0).rows = [] := by unfold bd; simp [hrows]
  have hfo : (bd y.val.p 0).over = true := by unfold bd; simp [hrows]
  have hro' : iX ⟨y.val.v, bd y.val.p 0, y.val.b, y.val.o + 0⟩ = .sl 1 [] none .no := by unfold iX; rw [if_pos hf0]
  refine ⟨h.set y.val.v (aT (bd y.val.p 0) (.sl 1 [] none .no)), aI y.val, ?_, hr.turn ho hy hk (x' := ⟨y.val.v, bd y.val.p 0, y.val.b, y.val.o + 0⟩) rfl (by simp) ?_ (fun hne => absurd hf0 hne) (fun q hq hn => Q9 fun e => hn (by rw [<- e]; exact cN _)) (fun hne => absurd hf0 hne) (by rw [Rg]; exact ay hr.lt hset) (fun hp => bz hp (kq rfl) _)⟩
  ·have hpv := cN y.val
   have hl' := ay (i := y.val.v) hr.lt hset
   simp only [aT, hfo] at hl'
   have hft : (bd y.val.p 0).text = y.val.p.text := rfl
   have hfi : (bd y.val.p 0).oids = y.val.p.oids := rfl
   have hfp : (bd y.val.p 0).ps = y.val.p.ps := rfl
   have hfr : (bd y.val.p 0).ran = true := hran
   rw [hft, hfi, hfp, hfr] at hl'
   rw [hrows] at hmin
   refine ac MB mixed (by simp [Da]) fun hh hargs => ?_
   simp [Da]
   refine aa (by simp) (fL hr hg) ?_
   by_cases hm : most < 1
   ·simp [hm] at hmin
    simp [hv, aT, hran, hov, hm]
    refine aa (by simp) htk ?_
    simp [hv, e4, aT, hft, hfi, hfp, hfr, hfo, hrows, hran, hl', hpv]
   ·simp [hm] at hmin
    simp [hv, aT, hran, hov, hm, hmin]
    refine aa (by simp) htk ?_
    simp [hv, e4, aT, hft, hfi, hfp, hfr, hfo, hrows, hran, hl', hpv]
  ·rw [Ra hvl, hro']
 ·have hro : iX y.val = .bsl y.val.b y.val.o 1 y.val.p.rows.length := by unfold iX; rw [if_neg hrows]
  have hrow0 := hv
  rw [hro] at hv
  obtain ⟨cs, hb, hd, hoc⟩ := hr.rows y hy hrows
  have hbl := hr.b_lt hy hrows
  have hne : y.val.v ≠ y.val.b := by
   have := (hr.own y hy).1
   unfold aI at this
   rw [if_neg hrows] at this
   simpa using this
  have hrl : 1 <= y.val.p.rows.length := List.length_pos_iff.2 hrows
  have hn1 : 1 <= n := by rw [hn]; exact vz hrl
  have htk := DI (p := y.val.p) hv hb hd hoc hne hn1 hle hl1
  obtain ⟨H1, hH1⟩ : ∃ H, H = h.set y.val.b (lay cs y.val.o (Ri n sh)) := ⟨_, rfl⟩
  rw [<- hH1] at htk
  have hH1l : H1.length = h.length := by rw [hH1, Rg]
  have e7 : ∀ X, (H1.set y.val.v X)[y.val.v]? = some X := fun X => Ra (by omega)
  have hcsl : cg h.length cs := dV hr.lt _ _ hb
  have hlay : cg h.length (lay cs y.val.o (Ri n sh)) := cE fun j c hj => by
   rcases kV _ _ _ _ (Rn hj) with h1 | h1
   ·obtain ⟨q, hq⟩ := Rz h1
    exact cd hcsl q c hq
   ·rw [Rl h1]; trivial
  have hH1t : aR h.length H1 := by rw [hH1]; exact ay hr.lt hlay
  have hft : (bd y.val.p n).text = y.val.p.text := rfl
  have hfi : (bd y.val.p n).oids = y.val.p.oids := rfl
  have hfp : (bd y.val.p n).ps = y.val.p.ps := rfl
  have hfr : (bd y.val.p n).ran = true := hran
  have hfl : (bd y.val.p n).rows.length = y.val.p.rows.length - n := by show (y.val.p.rows.drop n).length = _; rw [Rt]
  have hfo : (bd y.val.p n).over = decide (y.val.p.rows.length - n = 0) := by
   show decide (y.val.p.rows.drop n = []) = _
   refine decide_eq_decide.2 ?_
   rw [List.drop_eq_nil_iff]; omega
  have hdr : decide (y.val.p.rows.drop n = []) = decide (y.val.p.rows.length - n = 0) := hfo
  have hdc : (((y.val.p.rows.length - n : Nat) : Int) == 0) = decide (y.val.p.rows.length - n = 0) := by
   rw [Bool.eq_iff_iff]; simp
  obtain ⟨x', hx'⟩ : ∃ x' : PV, x' = ⟨y.val.v, bd y.val.p n, y.val.b, y.val.o + n⟩ := ⟨_, rfl⟩
  have hxro : iX x' = if y.val.p.rows.length - n = 0 then .sl 1 [] none .no else .bsl y.val.b (y.val.o + n) 1 (y.val.p.rows.length - n) := by
   rw [hx']; unfold iX
   show (if (bd y.val.p n).rows = [] then AV.sl 1 [] none .no else AV.bsl y.val.b (y.val.o + n) 1 (bd y.val.p n).rows.length) = _
   rw [hfl]
   by_cases e : y.val.p.rows.length - n = 0
   ·rw [if_pos e, if_pos (List.eq_nil_of_length_eq_zero (by rw [hfl]; exact e))]
   ·rw [if_neg e, if_neg (fun e2 => e (by rw [<- hfl, e2]; rfl))]
  have hxlt : (iX x').lt h.length := by rw [hxro]; split <;> simp [hbl]
  have hset : cg h.length (aT (bd y.val.p n) (iX x')) := wc hxlt
  have hsetL : aR h.length (H1.set y.val.v (aT (bd y.val.p n) (iX x'))) := ay hH1t hset
  have hleq : LeqV (.cell y.val.v 3) (.bsl y.val.b (y.val.o + n) 1 (y.val.p.rows.length - n)) (iX x') := by
   rw [hxro]
   split
   ·rename_i e; simp [e]
   ·simp
  have hpb : y.val.b ∈ aI y.val := li hrows
  have hP1 : bZ h -> bZ H1 := fun hp => by
   rw [hH1]
   refine bz hp (fun c hc => ?_) _
   rcases kV _ _ _ _ hc with h1 | h1
   ·exact hp cs (Rn hb) c h1
   ·rw [Rl h1]; rfl
  have hpv := cN y.val
  rw [<- hx']
  refine ⟨H1.set y.val.v (aT (bd y.val.p n) (iX x')), aI y.val, ?_, hr.turn ho hy hk (x' := x') (by rw [hx']) (by simp [hH1l]) ?_ (fun hne2 => ?_) (fun q hq hnq => ?_) (fun _ => .inr ⟨by rw [hx'], hrows⟩) (by rw [Rg, hH1l]; exact hsetL) (fun hp => bz (hP1 hp) (kq (BE _)) _)⟩
  ·have hl' := hsetL
   simp only [aT] at hl'
   rw [hft, hfi, hfp, hfr, hfo] at hl'
   refine ac MB mixed (by simp [Da]) fun hh hargs => ?_
   simp [Da]
   refine aa (by simp) (fL hr hg) ?_
   by_cases hm : most < 1
   ·rw [if_pos hm] at hmin
    simp [hv, aT, hran, hov, hm]
    rw [hmin]
    refine aa (by simp) htk ?_
    simp [e7, aT, hft, hfi, hfp, hfr, hfo, hran, hl', hpv, hpb, hdr, hdc]
    exact ⟨by omega, by omega, .inl hleq, by rw [hH1l]; exact hl'⟩
   ·rw [if_neg hm] at hmin
    simp [hv, aT, hran, hov, hm]
    rw [hmin]
    refine aa (by simp) htk ?_
    simp [e7, aT, hft, hfi, hfp, hfr, hfo, hran, hl', hpv, hpb, hdr, hdc]
    exact ⟨by omega, by omega, .inl hleq, by rw [hH1l]; exact hl'⟩
  ·rw [Ra (by omega)]; rw [hx']
  ·have hr2 : x'.p.rows = y.val.p.rows.drop n := by rw [hx']; rfl
   have hb2 : x'.b = y.val.b := by rw [hx']
   have ho2 : x'.o = y.val.o + n := by rw [hx']
   rw [hb2, ho2, hr2]
   refine ⟨lay cs y.val.o (Ri n sh), ?_, ?_, ?_⟩
   ·rw [Q9 hne, hH1, Ra hbl]
   ·refine Rr fun j => ?_
    rw [Rp]
    have hdj := congrArg (fun l => l[n + j]?) hd
    simp only [Rp] at hdj
    by_cases hj : j < (y.val.p.rows.drop n).length
    ·rw [if_pos hj, Rq, gV _ _ _ _ (by rw [Rx]; omega), if_neg (by rw [Rx]; omega)]
     rw [Rt] at hj
     rw [if_pos (by omega), Rq] at hdj
     rw [show y.val.o + n + j = y.val.o + (n + j) by omega, hdj, RE, RE, Rq]
    ·rw [if_neg hj, Ry (by simpa using hj)]
   ·rw [jV, Rt]; omega
  ·have h1 : q ≠ y.val.v := fun e => hnq (by rw [e]; exact hpv)
   have h2 : q ≠ y.val.b := fun e => hnq (by rw [e]; exact hpb)
   rw [Q9 (Ne.symm h1), hH1, Q9 (Ne.symm h2)]
end
theorem wA {l m : List (List UInt8)} (h : l.Perm m) : ey l = ey m := by
 have h1 : (ey l).Perm (ey m) := (RA ..).trans (h.trans (RA ..).symm)
 have so : ∀ l : List (List UInt8), (ey l).Pairwise (fun x y => decide (x <= y) = true) := fun l => List.pairwise_mergeSort (fun a b c h1 h2 => by simp at *; exact List.le_trans h1 h2) (fun a b => by simp; exact List.le_total a b) _
 exact h1.eq_of_pairwise (fun a b _ _ h1 h2 => by simp at h1 h2; exact List.le_antisymm h1 h2) (so _) (so _)
theorem yd (l : List (List UInt8)) : vE (mY l) = al gh l := by
 unfold vE mY al
 rw [RG]
 rfl
section
variable {h : List (List AV)} {i : Nat} {S : Ps}
end
theorem za {H h : List (List AV)} (hl : h.length <= H.length) (hs : ∀ q < h.length, H[q]? = h[q]?) : iQ 0 (H.take h.length) h := by
 have e : H.take h.length = h := by
  refine Rr fun q => ?_
  rw [Rp]
  split
  ·rename_i hq; exact hs q hq
  ·rename_i hq; rw [Ry (by omega)]
 rw [e]; exact eJ _ _
def DA (a : Nat) : Ps := ⟨a, 0, []⟩
theorem DB (a : Nat) : PsOk (DA a) := ⟨⟨Ro, Ro, fun x hx => by cases hx⟩, fun x hx => by cases hx⟩
theorem Ps.get_put {S : Ps} (ho : PsOk S) (k : List UInt8) (x : PV) (k' : List UInt8) : (S.put k x).get k' = if k' = k then some x else S.get k' := KE.get_put ho.ok k x k'
section
variable {h : List (List AV)} {i : Nat}
variable {p : AV}
end
end Go.Proofs.YtknohkmpficjgaaGreatDoor.Ax
