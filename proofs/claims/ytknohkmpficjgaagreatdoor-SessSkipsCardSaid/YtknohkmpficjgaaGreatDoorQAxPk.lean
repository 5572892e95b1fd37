import Derived.Test.YtknohkmpficjgaaGreatDoorQAxXr
import Derived.Test.YtknohkmpficjgaaGreatDoorQAxKc0
import Derived.Test.YtknohkmpficjgaaGreatDoorQAxCl
import Derived.Test.YtknohkmpficjgaaGreatDoorQCodeA
import Derived.Test.YtknohkmpficjgaaGreatDoorQAxPa
import Derived.Test.YtknohkmpficjgaaGreatDoorQAxSt
set_option linter.unusedSimpArgs false
set_option linter.unusedVariables false
namespace Go.Proofs.YtknohkmpficjgaaGreatDoor.Ax
open Go.RowKit Go By
set_option maxRecDepth 10000
theorem jclone_c (l : List Int) (hl : l.length <= 1000000) (h : List (List AV)) : Contract Tryz.prog 84 [.sl 1 (enc intC l) none .no] h (.sl 1 (enc intC l) none .no) h [] := by
 refine contract_nul (pre := []) (post := []) (fun he => ?_) ?_
 ·have : l = [] := by cases l with | nil => rfl | cons _ _ => simp [enc] at he
  subst this
  refine contract_of k84 mixed (by simp [c84]) fun hh hargs => ?_
  simp [c84, hh, enc]
 ·refine contract_of k84 mixed (by simp [c84]) fun hh hargs => ?_
  simp [c84, hh]
  refine xappendA_own ?_
  simp [hh]
  omega
theorem rows_frz (L : List (List Cl)) (hne : L ≠ []) : frzOk (L.map rowA) := by
 cases L with
 | nil => exact absurd rfl hne
 | cons x r => exact trivial
theorem rows_frzd (L : List (List Cl)) (i : Nat) : (AV.bsl i 0 1 L.length).frz i (L.map rowA) = .sl 1 (enc rowKC L) (some false) .no := by
 rw [<- rows_flat]
 exact frz_all (c := rowKC) (k := 1) (fun _ => rfl) L i L.length rfl
theorem cloneRows_s {h : List (List AV)} {x : AV} {L : List (List Cl)} (hx : RowsX h x L) (hf : RowsFit L) : Contract Tryz.prog 153 [x] h (.sl 1 (enc rowKC L) none .no) h [] := by
 by_cases hne : L = []
 ·subst hne
  exact cloneRows_e hx
 have hid := hx.id
 have hlt := hx.lt
 have hz := rows_frzd L h.length
 have hl1 := hf.1
 refine contract_cut (XCode.cuts [false, false, true] c153.code) k153 rfl mixed (by simp [c153]) fun hh hargs => ?_
 have hF := fun n => rowsL_lt n L
 simp [c153, hid]
 refine xcall_self (by simpa using hid) (clone_row_x hx hne (by omega)) ?_
 simp
 refine xseq_frz h.length (L.map rowA) ⟨[(3, .sl 1 (enc rowKC L) none .no)], [], h, []⟩ (Nat.le_refl _) (rows_frz L hne) ?_ ?_
 ·simp
  refine xloop_ok (D := Nat) (fun j => ⟨[(3, .bsl h.length 0 1 L.length), (8, .bsl h.length 0 1 L.length), (9, .v (.int .i64 L.length)), (10, .v (.int .i64 j))], [], h ++ [L.map rowA], []⟩) (fun j => j <= L.length) (fun j => L.length - j) 0 (by simp) ?_ ?_
  ·simp [Leq, hh, hF]
  ·intro j hj
   by_cases hlt : j < L.length
   ·have hw : IntKind.i64.wrap ((j : Int) + 1) = (j : Int) + 1 := wrap64 (by omega) (by omega)
    obtain ⟨f1, f2⟩ := hf.2 _ (List.getElem_mem hlt)
    have hsame : (L.map rowA).set j (rowA L[j]) = L.map rowA := by
     refine List.ext_getElem? fun q => ?_
     rw [List.getElem?_set]
     split
     ·rename_i e; subst e; simp [hlt]
     ·rfl
    simp [hlt, rowA_mk] at hsame ⊢
    refine xcall_self (by simp) (copyCells_c L[j] f1 f2 _) ?_
    have hnext : j + 1 <= L.length := hlt
    simp [hlt, hsame, hw, hnext]
    refine ⟨j + 1, by omega, by omega, ?_⟩
    simp [Leq, hh, hF]
   ·have : j = L.length := by omega
    subst this
    simp [Leq, hh, hz]
 ·simp [hh]
structure Pt where
 text : List UInt8
 oids : List Int
 ps : List Cl
 rows : List (List Cl)
 ran : Bool
 over : Bool
def ptC (p : Pt) (x : AV) : List AV := [.v (.string (strB p.text)), .sl 1 (enc intC p.oids) none .no, .sl 2 (enc cellC p.ps) none .no, x, .v (.bool p.ran), .v (.bool p.over)]
def ptV (p : Pt) : List AV := ptC p (.sl 1 (enc rowKC p.rows) none .no)
def Pt.fit (p : Pt) : Prop := p.text.length <= 1000000 /\ p.oids.length <= 1000000 /\ (p.ps.length <= 1000000 /\ ∀ c ∈ p.ps, c.2.length <= 140737488351232) /\ RowsFit p.rows
theorem ptC_lt {n : Nat} {p : Pt} {x : AV} (hx : x.lt n) : ltL n (ptC p x) := by simp [ptC, hx]
theorem ptC_id {p : Pt} {x : AV} (hx : x.idOf = none) : ∀ c ∈ ptC p x, c.idOf = none := by simp [ptC, hx]
theorem pclone_s {h : List (List AV)} {p : Pt} {x : AV} (hx : RowsX h x p.rows) (hf : p.fit) : Contract Tryz.prog 149 [.agg (ptC p x)] h (.agg (ptV p)) h [] := by
 obtain ⟨f1, f2, ⟨f3, f3'⟩, f4⟩ := hf
 have hid := hx.id
 have hun := hx.unown
 have hce := hx.cells
 refine contract_of k149 mixed (by simp [c149]) fun hh hargs => ?_
 simp [c149, ptC, hun]
 refine xcall_self (by simp) (sclone_c p.text (by omega) _) ?_
 simp
 refine xcall_self (by simp) (jclone_c p.oids (by omega) _) ?_
 simp
 refine xcall_self (by simp) (copyCells_c p.ps (by omega) f3' _) ?_
 simp [hid, hun, hce]
 refine xcall_self (by simpa using hid) (cloneRows_s (hx.app _) f4) ?_
 simp [hid, hun, hce, ptV, ptC, hh, leqH_take]
def pcloneH (h : List (List AV)) (p : Pt) : List (List AV) := h ++ [ptC p (.bsl (h.length + 2) 0 1 p.rows.length), ptC p (.bsl (h.length + 2) 0 1 p.rows.length), p.rows.map rowA]
theorem pclone_x {h : List (List AV)} {p : Pt} {x : AV} (hx : RowsX h x p.rows) (hf : p.fit) (hne : p.rows ≠ []) : Contract Tryz.prog 149 [.agg (ptC p x)] h (.agg (ptC p (.bsl (h.length + 2) 0 1 p.rows.length))) (pcloneH h p) [] := by
 obtain ⟨f1, f2, ⟨f3, f3'⟩, f4⟩ := hf
 have hid := hx.id
 have hun := hx.unown
 have hce := hx.cells
 refine contract_of k149 mixed (by simp [c149]) fun hh hargs => ?_
 have hF := rowsL_lt
 have hl := ltLL_mono (Nat.le_add_right h.length 3) hh
 simp [c149, ptC, hun]
 refine xcall_self (by simp) (sclone_c p.text (by omega) _) ?_
 simp
 refine xcall_self (by simp) (jclone_c p.oids (by omega) _) ?_
 simp
 refine xcall_self (by simp) (copyCells_c p.ps (by omega) f3' _) ?_
 simp [hid, hun, hce]
 refine xcall_self (by simpa using hid) (cloneRows_x (hx.app _) hne f4) ?_
 simp [hid, hun, hce, pcloneH, ptC, hh, hF, hl]
theorem pclone_e {h : List (List AV)} {p : Pt} {x : AV} (hx : RowsX h x p.rows) (hf : p.fit) (he : p.rows = []) : Contract Tryz.prog 149 [.agg (ptC p x)] h (.agg (ptC p (.sl 1 [] none .no))) h [] := by
 have := pclone_s hx hf
 unfold ptV at this
 rwa [he] at this
structure PV where
 v : Nat
 p : Pt
 b : Nat
 o : Nat
def pvC (x : PV) : List AV := [.box x.v 0]
theorem pvC_len (x : PV) : (pvC x).length = 1 := rfl
theorem pvC_plain (x : PV) : ∀ c ∈ pvC x, c.idOf = none := fun c hc => by unfold pvC at hc; rw [List.mem_singleton.1 hc]; rfl
def roX (x : PV) : AV := if x.p.rows = [] then .sl 1 [] none .no else .bsl x.b x.o 1 x.p.rows.length
def pvars (x : PV) : List Nat := if x.p.rows = [] then [x.v] else [x.v, x.b]
theorem pvars_v (x : PV) : x.v ∈ pvars x := by unfold pvars; split <;> simp
theorem pvars_b {x : PV} (h : x.p.rows ≠ []) : x.b ∈ pvars x := by unfold pvars; rw [if_neg h]; simp
theorem roX_id (x : PV) : (roX x).idOf = none := by unfold roX; split <;> rfl
structure Ps where
 a : Nat
 clock : Nat
 e : List (KE PV)
def Ps.cells (S : Ps) : List AV := mapC S.clock (S.e.map (KE.ent pvC))
def Ps.get (S : Ps) (k : List UInt8) : Option PV := KE.get k S.e
def Ps.put (S : Ps) (k : List UInt8) (x : PV) : Ps := { S with clock := KE.tick k S.clock S.e, e := KE.put k S.clock x S.e }
def Ps.del (S : Ps) (k : List UInt8) : Ps := { S with e := KE.del k S.e }
def Ps.clear (S : Ps) : Ps := { S with e := [] }
def Ps.vars (S : Ps) : List Nat := S.a :: S.e.flatMap fun x => pvars x.val
theorem Ps.of_cells (S : Ps) : mapOf 1 S.cells = some (S.clock, S.e.map (KE.ent pvC)) := KE.ents_of pvC_len _ _
theorem Ps.keys (S : Ps) : keysOk none (S.e.map (KE.ent pvC)) := KE.ents_keys pvC_plain _
theorem Ps.plain (S : Ps) : ∀ c ∈ S.cells, c.idOf = none := KE.ents_plain pvC_plain _ _
theorem Ps.mem_vars {S : Ps} {x : KE PV} (hx : x ∈ S.e) {q : Nat} (hq : q ∈ pvars x.val) : q ∈ S.vars := List.mem_cons_of_mem _ (List.mem_flatMap.2 ⟨x, hx, hq⟩)
structure PsAt (h : List (List AV)) (i : Nat) (S : Ps) : Prop where
 top : h[i]? = some [.mp S.a 1 true]
 ents : h[S.a]? = some S.cells
 each : ∀ x ∈ S.e, h[x.val.v]? = some (ptC x.val.p (roX x.val))
 rows : ∀ x ∈ S.e, x.val.p.rows ≠ [] -> ∃ cs, h[x.val.b]? = some cs /\ (cs.drop x.val.o).take x.val.p.rows.length = x.val.p.rows.map rowA /\ x.val.o + x.val.p.rows.length <= cs.length
 sep : ∀ x ∈ S.e, ∀ y ∈ S.e, x.key ≠ y.key -> ∀ q ∈ pvars x.val, q ∉ pvars y.val
 own : ∀ x ∈ S.e, (pvars x.val).Nodup /\ i ∉ pvars x.val /\ S.a ∉ pvars x.val
 apart : i ≠ S.a
 lt : ltLL h.length h
structure PsOk (S : Ps) : Prop where
 ok : KE.Ok S.clock S.e
 fit : ∀ x ∈ S.e, x.val.p.fit
theorem mem_kput {β : Type} {clock : Nat} {l : List (KE β)} (ho : KE.Ok clock l) {k : List UInt8} {v : β} {y : KE β} (hy : y ∈ KE.put k clock v l) : (y.key = k /\ y.val = v) \/ (y.key ≠ k /\ y ∈ l) := by
 unfold KE.put at hy
 cases hf : KE.find k l with
 | some s =>
  rw [hf] at hy
  simp only [Option.isSome_some, if_true] at hy
  obtain ⟨x, hx, rfl⟩ := List.mem_map.1 hy
  by_cases e : x.key = k
  ·left; unfold KE.upd; rw [if_pos e]; exact ⟨e, rfl⟩
  ·right; unfold KE.upd; rw [if_neg e]; exact ⟨e, hx⟩
 | none =>
  rw [hf] at hy
  rw [if_neg (by simp)] at hy
  rcases List.mem_append.1 hy with hy | hy
  ·exact .inr ⟨KE.find_none hf y hy, hy⟩
  ·rw [List.mem_singleton.1 hy]; exact .inl ⟨rfl, rfl⟩
theorem get_mem {β : Type} {l : List (KE β)} {k : List UInt8} {v : β} (hg : KE.get k l = some v) : ∃ x ∈ l, x.key = k /\ x.val = v := by
 unfold KE.get at hg
 cases hf : KE.find k l with
 | none => rw [hf] at hg; cases hg
 | some x =>
  rw [hf] at hg
  injection hg with hg
  exact ⟨x, (KE.find_mem hf).1, (KE.find_mem hf).2, hg⟩
theorem PsOk.put {S : Ps} (ho : PsOk S) (k : List UInt8) {x : PV} (hx : x.p.fit) : PsOk (S.put k x) := ⟨KE.put_ok ho.ok k x, fun y hy => by
 rcases mem_kput ho.ok hy with ⟨_, e⟩ | ⟨_, hy⟩
 ·rw [e]; exact hx
 ·exact ho.fit y hy⟩
theorem PsOk.del {S : Ps} (ho : PsOk S) (k : List UInt8) : PsOk (S.del k) := ⟨KE.del_ok ho.ok k, fun y hy => ho.fit y ((KE.mem_del ho.ok).1 hy).1⟩
theorem PsOk.clear {S : Ps} : PsOk S.clear := ⟨⟨List.nodup_nil, List.nodup_nil, fun x hx => by cases hx⟩, fun x hx => by cases hx⟩
theorem PsOk.gfit {S : Ps} (ho : PsOk S) {k : List UInt8} {x : PV} (hg : S.get k = some x) : x.p.fit := by
 obtain ⟨y, hy, _, rfl⟩ := get_mem hg
 exact ho.fit y hy
section
variable {h : List (List AV)} {i : Nat} {S : Ps}
theorem PsAt.i_lt (hr : PsAt h i S) : i < h.length := (List.getElem?_eq_some_iff.1 hr.top).1
theorem PsAt.a_lt (hr : PsAt h i S) : S.a < h.length := (List.getElem?_eq_some_iff.1 hr.ents).1
theorem PsAt.v_lt (hr : PsAt h i S) {x : KE PV} (hx : x ∈ S.e) : x.val.v < h.length := (List.getElem?_eq_some_iff.1 (hr.each x hx)).1
theorem PsAt.b_lt (hr : PsAt h i S) {x : KE PV} (hx : x ∈ S.e) (hne : x.val.p.rows ≠ []) : x.val.b < h.length := by
 obtain ⟨cs, h1, _⟩ := hr.rows x hx hne
 exact (List.getElem?_eq_some_iff.1 h1).1
theorem PsAt.var_lt (hr : PsAt h i S) {q : Nat} (hq : q ∈ S.vars) : q < h.length := by
 unfold Ps.vars at hq
 rcases List.mem_cons.1 hq with rfl | hq
 ·exact hr.a_lt
 ·obtain ⟨x, hx, hq⟩ := List.mem_flatMap.1 hq
  unfold pvars at hq
  split at hq
  ·rw [List.mem_singleton.1 hq]; exact hr.v_lt hx
  ·rename_i hne
   rcases List.mem_cons.1 hq with rfl | hq
   ·exact hr.v_lt hx
   ·rw [List.mem_singleton.1 hq]; exact hr.b_lt hx hne
theorem PsAt.i_not (hr : PsAt h i S) : i ∉ S.vars := fun hq => by
 unfold Ps.vars at hq
 rcases List.mem_cons.1 hq with e | hq
 ·exact hr.apart e
 ·obtain ⟨x, hx, hq⟩ := List.mem_flatMap.1 hq
  exact (hr.own x hx).2.1 hq
theorem PsAt.rowsX (hr : PsAt h i S) {x : KE PV} (hx : x ∈ S.e) : RowsX h (roX x.val) x.val.p.rows := by
 unfold roX
 split
 ·rename_i e; rw [e]; exact .inl rfl
 ·rename_i hne
  obtain ⟨cs, h1, h2, h3⟩ := hr.rows x hx hne
  exact RowsX.bsl h1 h2 h3
theorem PsAt.move (hr : PsAt h i S) {h' : List (List AV)} (hi : h'[i]? = h[i]?) (hs : ∀ q ∈ S.vars, h'[q]? = h[q]?) (hlt : ltLL h'.length h') : PsAt h' i S :=
 ⟨hi.trans hr.top, (hs _ (List.mem_cons_self ..)).trans hr.ents, fun x hx => (hs _ (Ps.mem_vars hx (pvars_v _))).trans (hr.each x hx), fun x hx hne => by rw [hs _ (Ps.mem_vars hx (pvars_b hne))]; exact hr.rows x hx hne, hr.sep, hr.own, hr.apart, hlt⟩
theorem PsAt.app (hr : PsAt h i S) (xs : List (List AV)) (hx : ltLL (h.length + xs.length) xs) : PsAt (h ++ xs) i S :=
 hr.move (List.getElem?_append_left hr.i_lt) (fun q hq => List.getElem?_append_left (hr.var_lt hq)) (by rw [ltLL_append, List.length_append]; exact ⟨ltLL_mono (Nat.le_add_right _ _) hr.lt, hx⟩)
theorem PsAt.put (hr : PsAt h i S) (ho : PsOk S) {h' : List (List AV)} {k : List UInt8} {x : PV} (hv : h'[x.v]? = some (ptC x.p (roX x)))
  (hrw : x.p.rows ≠ [] -> ∃ cs, h'[x.b]? = some cs /\ (cs.drop x.o).take x.p.rows.length = x.p.rows.map rowA /\ x.o + x.p.rows.length <= cs.length) (hent : h'[S.a]? = some (S.put k x).cells)
  (hsame : ∀ q < h.length, q ≠ S.a -> (∀ y ∈ S.e, y.key = k -> q ∉ pvars y.val) -> h'[q]? = h[q]?) (hnew : ∀ q ∈ pvars x, h.length <= q \/ ∃ y ∈ S.e, y.key = k /\ q ∈ pvars y.val) (hnd : (pvars x).Nodup) (hlt : ltLL h'.length h') : PsAt h' i (S.put k x) := by
 have other : ∀ y ∈ S.e, y.key ≠ k -> ∀ q ∈ pvars y.val, h'[q]? = h[q]? := fun y hy hk q hq =>
  hsame q (hr.var_lt (Ps.mem_vars hy hq)) (fun e => by subst e; exact (hr.own y hy).2.2 hq) fun z hz hzk hqz => hr.sep y hy z hz (by rw [hzk]; exact hk) q hq hqz
 have nof : ∀ q ∈ pvars x, ∀ z ∈ S.e, z.key ≠ k -> q ∉ pvars z.val := fun q hq z hz hzk hqz => by
  rcases hnew q hq with h1 | ⟨y, hy, hyk, hqy⟩
  ·have := hr.var_lt (Ps.mem_vars hz hqz); omega
  ·exact hr.sep z hz y hy (by rw [hyk]; exact hzk) q hqz hqy
 refine ⟨?_, hent, fun y hy => ?_, fun y hy hne => ?_, fun y hy z hz hyz q hq => ?_, fun y hy => ?_, hr.apart, hlt⟩
 ·rw [hsame i hr.i_lt hr.apart fun y hy _ => (hr.own y hy).2.1]; exact hr.top
 ·rcases mem_kput ho.ok hy with ⟨_, e⟩ | ⟨hk, hy⟩
  ·rw [e]; exact hv
  ·rw [other y hy hk _ (pvars_v _)]; exact hr.each y hy
 ·rcases mem_kput ho.ok hy with ⟨_, e⟩ | ⟨hk, hy⟩
  ·rw [e] at hne ⊢; exact hrw hne
  ·rw [other y hy hk _ (pvars_b hne)]; exact hr.rows y hy hne
 ·rcases mem_kput ho.ok hy with ⟨h1, e⟩ | ⟨h1, hy⟩ <;> rcases mem_kput ho.ok hz with ⟨h2, e2⟩ | ⟨h2, hz⟩
  ·exact absurd (h1.trans h2.symm) hyz
  ·rw [e] at hq; exact nof q hq z hz h2
  ·rw [e2]; exact fun hqx => nof q hqx y hy h1 hq
  ·exact hr.sep y hy z hz hyz q hq
 ·rcases mem_kput ho.ok hy with ⟨_, e⟩ | ⟨hk, hy⟩
  ·rw [e]
   refine ⟨hnd, fun hi => ?_, fun ha => ?_⟩
   ·rcases hnew i hi with h1 | ⟨y, hy, _, hqy⟩
    ·have := hr.i_lt; omega
    ·exact (hr.own y hy).2.1 hqy
   ·rcases hnew S.a ha with h1 | ⟨y, hy, _, hqy⟩
    ·have := hr.a_lt; omega
    ·exact (hr.own y hy).2.2 hqy
  ·exact hr.own y hy
theorem PsAt.less (hr : PsAt h i S) {S' : Ps} (ha : S'.a = S.a) (hs : ∀ x ∈ S'.e, x ∈ S.e) (hlt : ltL h.length S'.cells) : PsAt (h.set S.a S'.cells) i S' := by
 refine ⟨?_, ?_, fun x hx => ?_, fun x hx hne => ?_, fun x hx y hy => hr.sep x (hs x hx) y (hs y hy), fun x hx => by rw [ha]; exact hr.own x (hs x hx), by rw [ha]; exact hr.apart, ?_⟩
 ·rw [List.getElem?_set_ne (Ne.symm hr.apart), ha]; exact hr.top
 ·rw [ha, List.getElem?_set_self hr.a_lt]
 ·rw [List.getElem?_set_ne (fun e => (hr.own x (hs x hx)).2.2 (by rw [e]; exact pvars_v _))]; exact hr.each x (hs x hx)
 ·rw [List.getElem?_set_ne (fun e => (hr.own x (hs x hx)).2.2 (by rw [e]; exact pvars_b hne))]; exact hr.rows x (hs x hx) hne
 ·rw [List.length_set]; exact ltLL_set hr.lt hlt
theorem PsAt.cells_lt (hr : PsAt h i S) {S' : Ps} (hs : ∀ x ∈ S'.e, x.val.v < h.length) : ltL h.length S'.cells := mapC_ltE fun e he => by
 obtain ⟨s, hs2, rfl⟩ := List.mem_map.1 he
 have := hs s hs2
 simp [KE.ent, pvC, this]
def DoesP (f : FuncId) (args : List AV) (h : List (List AV)) (i : Nat) (S : Ps) (r : AV) (S' : Ps) : Prop :=
 ∃ h' wr, Contract Tryz.prog f args h r h' wr /\ PsAt h' i S' /\ (∀ q ∈ wr, q < h.length -> q ∈ S.vars) /\ h.length <= h'.length /\ (∀ q < h.length, q ∉ S.vars -> h'[q]? = h[q]?) /\ (∀ q ∈ S'.vars, q ∈ S.vars \/ h.length <= q) /\ (plainH h -> plainH h')
theorem put_same {S : Ps} {k : List UInt8} {x x' : PV} (hg : S.get k = some x) (ho : PsOk S) (hv : x'.v = x.v) : (S.put k x').cells = S.cells := by
 obtain ⟨y, hy, hk, rfl⟩ := get_mem hg
 have hf := KE.find_of ho.ok hy
 rw [hk] at hf
 unfold Ps.put Ps.cells KE.tick KE.put
 dsimp only
 rw [hf]
 simp only [Option.isSome_some, if_true]
 rw [List.map_map]
 congr 1
 refine List.map_congr_left fun z hz => ?_
 show KE.ent pvC (KE.upd k x' z) = KE.ent pvC z
 unfold KE.upd
 split
 ·rename_i e
  have : z = y := map_inj_mem ho.ok.keys hz hy (e.trans hk.symm)
  subst this
  unfold KE.ent pvC
  simp only [hv]
 ·rfl
theorem put_vars {S : Ps} (ho : PsOk S) {k : List UInt8} {x' : PV} {n : Nat} (hnew : ∀ q ∈ pvars x', n <= q \/ ∃ y ∈ S.e, y.key = k /\ q ∈ pvars y.val) : ∀ q ∈ (S.put k x').vars, q ∈ S.vars \/ n <= q := fun q hq => by
 unfold Ps.vars at hq
 rcases List.mem_cons.1 hq with e | hq
 ·exact .inl (List.mem_cons.2 (.inl e))
 ·obtain ⟨y, hy, hq⟩ := List.mem_flatMap.1 hq
  rcases mem_kput ho.ok hy with ⟨_, e⟩ | ⟨_, hy⟩
  ·rw [e] at hq
   rcases hnew q hq with h1 | ⟨z, hz, _, hqz⟩
   ·exact .inr h1
   ·exact .inl (Ps.mem_vars hz hqz)
  ·exact .inl (Ps.mem_vars hy hq)
theorem less_vars {S S' : Ps} (ha : S'.a = S.a) (hs : ∀ x ∈ S'.e, x ∈ S.e) {n : Nat} : ∀ q ∈ S'.vars, q ∈ S.vars \/ n <= q := fun q hq => by
 unfold Ps.vars at hq
 rcases List.mem_cons.1 hq with e | hq
 ·exact .inl (List.mem_cons.2 (.inl (e.trans ha)))
 ·obtain ⟨y, hy, hq⟩ := List.mem_flatMap.1 hq
  exact .inl (Ps.mem_vars (hs y hy) hq)
end
section
variable {h : List (List AV)} {i : Nat} {S : Ps}
theorem Ps.found (S : Ps) (k : List UInt8) : Ax.found true false [.v (.pointer none)] (AEnt.find (.string (strB k)) (S.e.map (KE.ent pvC)) 0) = (match S.get k with | some x => .box x.v 0 | none => .v (.pointer none)) := by
 rw [KE.found_eq]
 unfold Ps.get
 cases KE.get k S.e <;> rfl
theorem pfind_c (hr : PsAt h i S) (k : List UInt8) : Contract Tryz.prog 74 [.box i 0, .v (.string (strB k))] h (match S.get k with | some x => .box x.v 0 | none => .v (.pointer none)) h [] := by
 have h1 := hr.top
 have h2 := hr.ents
 have h3 := S.of_cells
 have h4 := S.keys
 have h5 := S.found k
 have hv : ∀ x, S.get k = some x -> x.v < h.length := fun x hx => by
  obtain ⟨y, hy, _, rfl⟩ := get_mem hx
  exact hr.v_lt hy
 refine contract_of k74 mixed (by simp [c74]) fun hh hargs => ?_
 cases hg : S.get k with
 | none =>
  rw [hg] at h5
  simp only at h5
  simp [c74, h1, h2, h3, h4, h5, hh]
 | some x =>
  rw [hg] at h5
  simp only at h5
  have := hv x hg
  simp [c74, h1, h2, h3, h4, h5, hh, this]
theorem pfind_n (hr : PsAt h i S) {k : List UInt8} (hg : S.get k = none) : Contract Tryz.prog 74 [.box i 0, .v (.string (strB k))] h (.v (.pointer none)) h [] := by
 have := pfind_c hr k
 rwa [hg] at this
theorem pfind_s (hr : PsAt h i S) {k : List UInt8} {x : PV} (hg : S.get k = some x) : Contract Tryz.prog 74 [.box i 0, .v (.string (strB k))] h (.box x.v 0) h [] := by
 have := pfind_c hr k
 rwa [hg] at this
theorem pnew_c (h : List (List AV)) : Contract Tryz.prog 21 [] h (.box (h.length + 1) 0) (h ++ [mapC 0 [], [.mp h.length 1 true]]) [] := by
 refine contract_of k21 mixed (by simp [c21]) fun hh hargs => ?_
 have hl := ltLL_mono (Nat.le_add_right h.length 2) hh
 simp [c21, hl, mapC]
def zPt : Pt := ⟨[], [], [], [], false, false⟩
theorem pget_n (hr : PsAt h i S) {k : List UInt8} (hg : S.get k = none) : Contract Tryz.prog 151 [.box i 0, .v (.string (strB k))] h (.tup [.agg (ptV zPt), .v (.bool false)]) h [] := by
 have hr' := hr.app [[AV.v (.string (strB [])), .sl 0 [] (some true) .exact, .sl 0 [] (some true) .exact, .sl 0 [] (some true) .exact, .v (.bool false), .v (.bool false)]] (by simp)
 refine contract_of k151 mixed (by simp [c151]) fun hh hargs => ?_
 simp [c151]
 refine xcall_self (by simp) (pfind_n hr' hg) ?_
 simp [ptV, ptC, zPt, hh, leqH_take]
theorem pget_s (hr : PsAt h i S) (ho : PsOk S) {k : List UInt8} {x : PV} (hg : S.get k = some x) : Contract Tryz.prog 151 [.box i 0, .v (.string (strB k))] h (.tup [.agg (ptV x.p), .v (.bool true)]) h [] := by
 have hr' := hr.app [[AV.v (.string (strB [])), .sl 0 [] (some true) .exact, .sl 0 [] (some true) .exact, .sl 0 [] (some true) .exact, .v (.bool false), .v (.bool false)]] (by simp)
 have hfit := ho.gfit hg
 obtain ⟨y, hy, hk, rfl⟩ := get_mem hg
 have hv := hr'.each y hy
 have hrx := hr'.rowsX hy
 have hun : (ptC y.val.p (roX y.val)).map AV.unown = ptC y.val.p (roX y.val) := by simp [ptC, hrx.unown]
 have hlen : (ptC y.val.p (roX y.val)).length = 6 := rfl
 have htk : List.take 6 (ptC y.val.p (roX y.val)) = ptC y.val.p (roX y.val) := rfl
 have htm : List.take 6 (List.map AV.unown (ptC y.val.p (roX y.val))) = ptC y.val.p (roX y.val) := by rw [hun, htk]
 have hidx : ∀ c ∈ [AV.agg (ptC y.val.p (roX y.val))], c.idOf = none := fun c hc => by rw [List.mem_singleton.1 hc]; rfl
 refine contract_of k151 mixed (by simp [c151]) fun hh hargs => ?_
 simp [c151]
 refine xcall_self (by simp) (pfind_s hr' hg) ?_
 simp [hv, hlen, hun, htk, htm]
 refine xcall_self hidx (pclone_s hrx hfit) ?_
 simp [ptV, ptC, hh, leqH_take]
theorem pdel_n (hr : PsAt h i S) {k : List UInt8} (hg : S.get k = none) : Contract Tryz.prog 41 [.box i 0, .v (.string (strB k))] h (.v (.bool false)) h [] := by
 refine contract_of k41 mixed (by simp [c41]) fun hh hargs => ?_
 simp [c41]
 refine xcall_self (by simp) (pfind_n hr hg) ?_
 simp [hh]
theorem pdel_s (hr : PsAt h i S) {k : List UInt8} {x : PV} (hg : S.get k = some x) : Contract Tryz.prog 41 [.box i 0, .v (.string (strB k))] h (.v (.bool true)) (h.set S.a (S.del k).cells) [S.a] := by
 have h1 := hr.top
 have h2 := hr.ents
 have h3 := S.of_cells
 have h4 := S.keys
 have hdel : mapC S.clock (AEnt.del (.string (strB k)) (S.e.map (KE.ent pvC))) = (S.del k).cells := by rw [KE.del_eq]; rfl
 have hl2 : ltL h.length (S.del k).cells := hr.cells_lt fun x hx => hr.v_lt (List.mem_of_mem_eraseP hx)
 refine contract_of k41 mixed (by simp [c41]) fun hh hargs => ?_
 simp [c41]
 refine xcall_self (by simp) (pfind_s hr hg) ?_
 simp [h1, h2, h3, h4, hdel, ltLL_set, hh, hl2, leqC_same]
theorem pdel_d (hr : PsAt h i S) (k : List UInt8) : DoesP 41 [.box i 0, .v (.string (strB k))] h i S (.v (.bool (S.get k).isSome)) (S.del k) := by
 cases hg : S.get k with
 | none =>
  have e : S.del k = S := by
   unfold Ps.del
   have : KE.del k S.e = S.e := List.eraseP_of_forall_not fun x hx => by
    have := KE.get_none_iff.1 hg x hx
    simpa using this
   rw [this]
  rw [e]
  exact ⟨h, [], pdel_n hr hg, hr, (fun q hq => by cases hq), Nat.le_refl _, (fun _ _ _ => rfl), (fun q hq => .inl hq), fun h => h⟩
 | some x =>
  have hs : ∀ x ∈ (S.del k).e, x ∈ S.e := fun x hx => List.mem_of_mem_eraseP hx
  refine ⟨_, _, pdel_s hr hg, hr.less rfl hs (hr.cells_lt fun x hx => hr.v_lt (hs x hx)), fun q hq _ => by rw [List.mem_singleton.1 hq]; exact List.mem_cons_self .., by simp, fun q hq hn => ?_, less_vars (S := S) (S' := S.del k) rfl hs, fun hp => plainH_set hp (S.del k).plain _⟩
  exact List.getElem?_set_ne fun e => hn (by rw [<- e]; exact List.mem_cons_self ..)
theorem pclear_c (hr : PsAt h i S) : Contract Tryz.prog 40 [.box i 0] h (.tup []) (h.set S.a S.clear.cells) [S.a] := by
 have h1 := hr.top
 have h2 := hr.ents
 have h3 := S.of_cells
 have hc : S.clear.cells = mapC S.clock [] := rfl
 have hl2 : ltL h.length S.clear.cells := hr.cells_lt fun x hx => by cases hx
 rw [hc] at hl2 ⊢
 refine contract_of k40 mixed (by simp [c40]) fun hh hargs => ?_
 simp [c40, h1, h2, h3, ltLL_set, hh, hl2, leqC_same]
theorem pclear_d (hr : PsAt h i S) : DoesP 40 [.box i 0] h i S (.tup []) S.clear := by
 have hs : ∀ x ∈ S.clear.e, x ∈ S.e := fun x hx => by cases hx
 refine ⟨_, _, pclear_c hr, hr.less rfl hs (hr.cells_lt fun x hx => hr.v_lt (hs x hx)), fun q hq _ => by rw [List.mem_singleton.1 hq]; exact List.mem_cons_self .., by simp, fun q hq hn => ?_, less_vars (S := S) (S' := S.clear) rfl hs, fun hp => plainH_set hp S.clear.plain _⟩
 exact List.getElem?_set_ne fun e => hn (by rw [<- e]; exact List.mem_cons_self ..)
theorem pput_twice (hr : PsAt h i S) {k : List UInt8} (hk : k ≠ []) {x : PV} (hg : S.get k = some x) (p : Pt) : Contract Tryz.prog 87 [.box i 0, .v (.string (strB k)), .agg (ptV p)] h (.v (.int .i64 8)) h [] := by
 have h1 := hr.top
 have hr' := hr.app [ptV p] (by simp [ptV, ptC])
 have h1' := hr'.top
 have hk' : (k == []) = false := by simpa using hk
 refine contract_of k87 mixed (by simp [c87]) fun hh hargs => ?_
 have hun : (ptV p).map AV.unown = ptV p := rfl
 simp [c87, hun, h1', hk, hk']
 refine xcall_self (by simp) (pfind_s hr' hg) ?_
 simp [hh, leqH_take]
end
section
variable {h : List (List AV)} {i : Nat} {S : Ps}
theorem put_ents (S : Ps) (ho : PsOk S) (k : List UInt8) (x : PV) : mapC (AEnt.put (.string (strB k)) S.clock [.box x.v 0] (S.e.map (KE.ent pvC))).2 (AEnt.put (.string (strB k)) S.clock [.box x.v 0] (S.e.map (KE.ent pvC))).1 = (S.put k x).cells := by
 have := KE.put_eq pvC ho.ok k x
 have e : pvC x = [.box x.v 0] := rfl
 rw [e] at this
 rw [this]; rfl
theorem put_lt (hr : PsAt h i S) (ho : PsOk S) (k : List UInt8) {x : PV} {n : Nat} (hx : x.v < n) (hn : h.length <= n) : ltL n (S.put k x).cells := mapC_ltE fun e he => by
 obtain ⟨y, hy, rfl⟩ := List.mem_map.1 he
 rcases mem_kput ho.ok hy with ⟨_, e⟩ | ⟨_, hy⟩
 ·have : y.val.v < n := by rw [e]; exact hx
  simp [KE.ent, pvC, this]
 ·have := hr.v_lt hy
  have : y.val.v < n := by omega
  simp [KE.ent, pvC, this]
def putX (h : List (List AV)) (p : Pt) : PV := if p.rows = [] then ⟨h.length + 1, p, 0, 0⟩ else ⟨h.length + 4, p, h.length + 3, 0⟩
def putH (h : List (List AV)) (S : Ps) (k : List UInt8) (p : Pt) : List (List AV) :=
 if p.rows = [] then h.set S.a (S.put k (putX h p)).cells ++ [ptV p, ptC p (.sl 1 [] none .no)]
 else h.set S.a (S.put k (putX h p)).cells ++ [ptV p, ptC p (.bsl (h.length + 3) 0 1 p.rows.length), ptC p (.bsl (h.length + 3) 0 1 p.rows.length), p.rows.map rowA, ptC p (.bsl (h.length + 3) 0 1 p.rows.length)]
set_option maxHeartbeats 1000000 in
theorem pput_c (hr : PsAt h i S) (ho : PsOk S) {k : List UInt8} (hk : k.length <= 1000000) (hc : k = [] \/ S.get k = none) {p : Pt} (hf : p.fit) : Contract Tryz.prog 87 [.box i 0, .v (.string (strB k)), .agg (ptV p)] h (.v (.int .i64 0)) (putH h S k p) [S.a] := by
 have hr' := hr.app [ptV p] (by simp [ptV, ptC])
 have h1' := hr'.top
 have e1 : ∀ xs, (h ++ xs)[i]? = some [.mp S.a 1 true] := fun xs => by rw [List.getElem?_append_left hr.i_lt]; exact hr.top
 have e2 : ∀ xs, (h ++ xs)[S.a]? = some S.cells := fun xs => by rw [List.getElem?_append_left hr.a_lt]; exact hr.ents
 have e3 : ∀ xs cs, (h ++ xs).set S.a cs = h.set S.a cs ++ xs := fun xs cs => List.set_append_left _ _ hr.a_lt
 have h3 := S.of_cells
 have h4 := S.keys
 have hun : (ptV p).map AV.unown = ptV p := rfl
 have hlen : (ptV p).length = 6 := rfl
 have htk : List.take 6 (ptV p) = ptV p := rfl
 have hput := put_ents S ho k (putX h p)
 have hF := rowsL_lt
 have hpt : ∀ n, ltL n (ptV p) := fun n => by simp [ptV, ptC]
 by_cases hrows : p.rows = []
 ·have hpc := pclone_e (h := h ++ [ptV p]) (p := p) (x := .sl 1 (enc rowKC p.rows) none .no) (.inl rfl) hf hrows
  have hx : putX h p = ⟨h.length + 1, p, 0, 0⟩ := by unfold putX; rw [if_pos hrows]
  have hpl := put_lt hr ho k (x := putX h p) (n := h.length + 2) (by rw [hx]; simp) (by omega)
  have hH : putH h S k p = h.set S.a (S.put k (putX h p)).cells ++ [ptV p, ptC p (.sl 1 [] none .no)] := by unfold putH; rw [if_pos hrows]
  rw [hH]
  have hv : (putX h p).v = h.length + 1 := by rw [hx]
  rw [hv] at hput
  refine contract_of k87 mixed (by simp [c87]) fun hh hargs => ?_
  have hl := ltLL_set (i := S.a) (ltLL_mono (Nat.le_add_right h.length 2) hh) hpl
  by_cases hk0 : k = []
  ·subst hk0
   simp [c87, hun, hlen, htk, e1]
   refine xcall_self (by intro c hc; rw [List.mem_singleton.1 hc]; rfl) hpc ?_
   simp [e1, ptC, hun, hlen, htk]
   refine xcall_self (by simp) (sclone_c [] (by simp) _) ?_
   simp [e1, e2, e3, h3, h4, hput, ptC, hl, hpt]
  ·have hk' : (k == []) = false := by simpa using hk0
   have hg := hc.resolve_left hk0
   simp [c87, hun, hlen, htk, e1, hk0, hk']
   refine xcall_self (by simp) (pfind_n hr' hg) ?_
   simp [hlen, hun, htk]
   refine xcall_self (by intro c hc; rw [List.mem_singleton.1 hc]; rfl) hpc ?_
   simp [e1, ptC, hun, hlen, htk]
   refine xcall_self (by simp) (sclone_c k (by omega) _) ?_
   simp [e1, e2, e3, h3, h4, hput, ptC, hl, hpt]
 ·have hpc := pclone_x (h := h ++ [ptV p]) (p := p) (x := .sl 1 (enc rowKC p.rows) none .no) (.inl rfl) hf hrows
  have hx : putX h p = ⟨h.length + 4, p, h.length + 3, 0⟩ := by unfold putX; rw [if_neg hrows]
  have hpl := put_lt hr ho k (x := putX h p) (n := h.length + 5) (by rw [hx]; simp) (by omega)
  have hH : putH h S k p = h.set S.a (S.put k (putX h p)).cells ++ [ptV p, ptC p (.bsl (h.length + 3) 0 1 p.rows.length), ptC p (.bsl (h.length + 3) 0 1 p.rows.length), p.rows.map rowA, ptC p (.bsl (h.length + 3) 0 1 p.rows.length)] := by unfold putH; rw [if_neg hrows]
  rw [hH]
  have hv : (putX h p).v = h.length + 4 := by rw [hx]
  rw [hv] at hput
  have hpH : pcloneH (h ++ [ptV p]) p = h ++ [ptV p, ptC p (.bsl (h.length + 3) 0 1 p.rows.length), ptC p (.bsl (h.length + 3) 0 1 p.rows.length), p.rows.map rowA] := by unfold pcloneH; simp
  rw [hpH] at hpc
  have hlen1 : (h ++ [ptV p]).length + 2 = h.length + 3 := by simp
  rw [hlen1] at hpc
  refine contract_of k87 mixed (by simp [c87]) fun hh hargs => ?_
  have hl := ltLL_set (i := S.a) (ltLL_mono (Nat.le_add_right h.length 5) hh) hpl
  by_cases hk0 : k = []
  ·subst hk0
   simp [c87, hun, hlen, htk, e1]
   refine xcall_self (by intro c hc; rw [List.mem_singleton.1 hc]; rfl) hpc ?_
   simp [e1, ptC, hun, hlen, htk]
   refine xcall_self (by simp) (sclone_c [] (by simp) _) ?_
   simp [e1, e2, e3, h3, h4, hput, ptC, hl, hpt, hF]
  ·have hk' : (k == []) = false := by simpa using hk0
   have hg := hc.resolve_left hk0
   simp [c87, hun, hlen, htk, e1, hk0, hk']
   refine xcall_self (by simp) (pfind_n hr' hg) ?_
   simp [hlen, hun, htk]
   refine xcall_self (by intro c hc; rw [List.mem_singleton.1 hc]; rfl) hpc ?_
   simp [e1, ptC, hun, hlen, htk]
   refine xcall_self (by simp) (sclone_c k (by omega) _) ?_
   simp [e1, e2, e3, h3, h4, hput, ptC, hl, hpt, hF]
theorem pput_d (hr : PsAt h i S) (ho : PsOk S) {k : List UInt8} (hk : k.length <= 1000000) (hc : k = [] \/ S.get k = none) {p : Pt} (hf : p.fit) : ∃ x : PV, x.p = p /\ DoesP 87 [.box i 0, .v (.string (strB k)), .agg (ptV p)] h i S (.v (.int .i64 0)) (S.put k x) := by
 have ha := hr.a_lt
 have hF := rowsL_lt
 have hptid : ∀ x : AV, x.idOf = none -> ∀ c ∈ ptC p x, c.idOf = none := fun x hx => ptC_id hx
 refine ⟨putX h p, by unfold putX; split <;> rfl, putH h S k p, [S.a], pput_c hr ho hk hc hf, ?_⟩
 by_cases hrows : p.rows = []
 ·have hx : putX h p = ⟨h.length + 1, p, 0, 0⟩ := by unfold putX; rw [if_pos hrows]
  have hH : putH h S k p = h.set S.a (S.put k (putX h p)).cells ++ [ptV p, ptC p (.sl 1 [] none .no)] := by unfold putH; rw [if_pos hrows]
  have hpv : pvars (putX h p) = [h.length + 1] := by rw [hx]; unfold pvars; rw [if_pos hrows]
  have hpl := put_lt hr ho k (x := putX h p) (n := h.length + 2) (by rw [hx]; simp) (by omega)
  have hro : roX (putX h p) = .sl 1 [] none .no := by rw [hx]; unfold roX; rw [if_pos hrows]
  have hpx : (putX h p).p = p := by rw [hx]
  have hpvv : (putX h p).v = h.length + 1 := by rw [hx]
  have hnew : ∀ q ∈ pvars (putX h p), h.length <= q \/ ∃ y ∈ S.e, y.key = k /\ q ∈ pvars y.val := fun q hq => by rw [hpv, List.mem_singleton] at hq; left; omega
  have hlen : (h.set S.a (S.put k (putX h p)).cells).length = h.length := List.length_set
  rw [hH]
  refine ⟨hr.put ho (x := putX h p) ?_ ?_ ?_ ?_ hnew ?_ ?_, fun q hq _ => by rw [List.mem_singleton.1 hq]; exact List.mem_cons_self .., by simp, fun q hq hn => ?_, put_vars ho hnew, fun hp => plainH_append (plainH_set hp (S.put k (putX h p)).plain _) ?_⟩
  ·rw [hpvv, hpx, hro, List.getElem?_append_right (by omega), hlen]; simp
  ·rw [hpx]; exact fun hne => absurd hrows hne
  ·rw [List.getElem?_append_left (by omega), List.getElem?_set_self ha]
  ·intro q hq hqa _
   rw [List.getElem?_append_left (by omega), List.getElem?_set_ne (Ne.symm hqa)]
  ·rw [hpv]; simp
  ·rw [ltLL_append, List.length_append, hlen]
   exact ⟨ltLL_set (ltLL_mono (Nat.le_add_right _ _) hr.lt) hpl, by simp [ptV, ptC]⟩
  ·rw [List.getElem?_append_left (by omega), List.getElem?_set_ne (fun e => hn (by rw [<- e]; exact List.mem_cons_self ..))]
  ·intro x hx2
   rcases List.mem_cons.1 hx2 with rfl | hx2
   ·exact hptid _ rfl
   ·rw [List.mem_singleton.1 hx2]; exact hptid _ rfl
 ·have hx : putX h p = ⟨h.length + 4, p, h.length + 3, 0⟩ := by unfold putX; rw [if_neg hrows]
  have hH : putH h S k p = h.set S.a (S.put k (putX h p)).cells ++ [ptV p, ptC p (.bsl (h.length + 3) 0 1 p.rows.length), ptC p (.bsl (h.length + 3) 0 1 p.rows.length), p.rows.map rowA, ptC p (.bsl (h.length + 3) 0 1 p.rows.length)] := by unfold putH; rw [if_neg hrows]
  have hpv : pvars (putX h p) = [h.length + 4, h.length + 3] := by rw [hx]; unfold pvars; rw [if_neg hrows]
  have hpl := put_lt hr ho k (x := putX h p) (n := h.length + 5) (by rw [hx]; simp) (by omega)
  have hro : roX (putX h p) = .bsl (h.length + 3) 0 1 p.rows.length := by rw [hx]; unfold roX; rw [if_neg hrows]
  have hpx : (putX h p).p = p := by rw [hx]
  have hpvv : (putX h p).v = h.length + 4 := by rw [hx]
  have hpb : (putX h p).b = h.length + 3 := by rw [hx]
  have hpo : (putX h p).o = 0 := by rw [hx]
  have hnew : ∀ q ∈ pvars (putX h p), h.length <= q \/ ∃ y ∈ S.e, y.key = k /\ q ∈ pvars y.val := fun q hq => by rw [hpv] at hq; left; simp at hq; omega
  have hlen : (h.set S.a (S.put k (putX h p)).cells).length = h.length := List.length_set
  rw [hH]
  refine ⟨hr.put ho (x := putX h p) ?_ ?_ ?_ ?_ hnew ?_ ?_, fun q hq _ => by rw [List.mem_singleton.1 hq]; exact List.mem_cons_self .., by simp, fun q hq hn => ?_, put_vars ho hnew, fun hp => plainH_append (plainH_set hp (S.put k (putX h p)).plain _) ?_⟩
  ·rw [hpvv, hpx, hro, List.getElem?_append_right (by omega), hlen]; simp
  ·rw [hpx, hpb, hpo]
   refine fun _ => ⟨p.rows.map rowA, ?_, ?_, ?_⟩
   ·rw [List.getElem?_append_right (by omega), hlen]; simp
   ·rw [List.drop_zero, List.take_of_length_le (by simp)]
   ·simp
  ·rw [List.getElem?_append_left (by omega), List.getElem?_set_self ha]
  ·intro q hq hqa _
   rw [List.getElem?_append_left (by omega), List.getElem?_set_ne (Ne.symm hqa)]
  ·rw [hpv]; simp
  ·rw [ltLL_append, List.length_append, hlen]
   exact ⟨ltLL_set (ltLL_mono (Nat.le_add_right _ _) hr.lt) hpl, by simp [ptV, ptC, hF]⟩
  ·rw [List.getElem?_append_left (by omega), List.getElem?_set_ne (fun e => hn (by rw [<- e]; exact List.mem_cons_self ..))]
  ·intro x hx2
   simp only [List.mem_cons, List.not_mem_nil, or_false] at hx2
   rcases hx2 with rfl | rfl | rfl | rfl | rfl
   ·exact hptid _ rfl
   ·exact hptid _ rfl
   ·exact hptid _ rfl
   ·exact rowsL_id _
   ·exact hptid _ rfl
end
section
variable {h : List (List AV)} {i : Nat} {S : Ps}
theorem PsAt.turn (hr : PsAt h i S) (ho : PsOk S) {k : List UInt8} {y : KE PV} (hy : y ∈ S.e) (hk : y.key = k) {x' : PV} (hxv : x'.v = y.val.v) {h' : List (List AV)} (hl : h.length <= h'.length) (hv : h'[y.val.v]? = some (ptC x'.p (roX x')))
  (hrw : x'.p.rows ≠ [] -> ∃ cs, h'[x'.b]? = some cs /\ (cs.drop x'.o).take x'.p.rows.length = x'.p.rows.map rowA /\ x'.o + x'.p.rows.length <= cs.length) (hsame : ∀ q < h.length, q ∉ pvars y.val -> h'[q]? = h[q]?)
  (hb : x'.p.rows ≠ [] -> h.length <= x'.b \/ (x'.b = y.val.b /\ y.val.p.rows ≠ [])) (hlt : ltLL h'.length h') (hp : plainH h -> plainH h') :
  PsAt h' i (S.put k x') /\ (∀ q ∈ pvars y.val, q < h.length -> q ∈ S.vars) /\ h.length <= h'.length /\ (∀ q < h.length, q ∉ S.vars -> h'[q]? = h[q]?) /\ (∀ q ∈ (S.put k x').vars, q ∈ S.vars \/ h.length <= q) /\ (plainH h -> plainH h') := by
 have hg : S.get k = some y.val := (KE.get_iff ho.ok).2 ⟨y, hy, hk, rfl⟩
 have hnew : ∀ q ∈ pvars x', h.length <= q \/ ∃ y ∈ S.e, y.key = k /\ q ∈ pvars y.val := fun q hq => by
  unfold pvars at hq
  split at hq
  ·rw [List.mem_singleton.1 hq, hxv]; exact .inr ⟨y, hy, hk, pvars_v _⟩
  ·rename_i hne
   rcases List.mem_cons.1 hq with rfl | hq
   ·rw [hxv]; exact .inr ⟨y, hy, hk, pvars_v _⟩
   ·rw [List.mem_singleton.1 hq]
    rcases hb hne with h1 | ⟨h1, h2⟩
    ·exact .inl h1
    ·rw [h1]; exact .inr ⟨y, hy, hk, pvars_b h2⟩
 have hnd : (pvars x').Nodup := by
  unfold pvars
  split
  ·simp
  ·rename_i hne
   have : x'.v ≠ x'.b := by
    rw [hxv]
    rcases hb hne with h1 | ⟨h1, h2⟩
    ·have := hr.v_lt hy; omega
    ·have hn := (hr.own y hy).1
     unfold pvars at hn
     rw [if_neg h2] at hn
     rw [h1]
     intro e
     simp [e] at hn
   simp [this]
 refine ⟨hr.put ho (by rw [hxv]; exact hv) hrw ?_ (fun q hq hqa hqy => hsame q hq (hqy y hy hk)) hnew hnd hlt, fun q hq _ => Ps.mem_vars hy hq, hl, fun q hq hn => hsame q hq fun hqy => hn (Ps.mem_vars hy hqy), put_vars ho hnew, hp⟩
 rw [put_same hg ho hxv, hsame S.a hr.a_lt (hr.own y hy).2.2]
 exact hr.ents
def ranP (p : Pt) (L : List (List Cl)) : Pt := { p with ran := true, rows := L }
theorem pran_d (hr : PsAt h i S) (ho : PsOk S) {k : List UInt8} {x : PV} (hg : S.get k = some x) (hran : x.p.ran = false) {L : List (List Cl)} (hf : RowsFit L) : DoesP 91 [.box i 0, .v (.string (strB k)), .sl 1 (enc rowKC L) none .no] h i S (.v (.bool true)) (S.put k ⟨x.v, ranP x.p L, h.length, 0⟩) := by
 obtain ⟨y, hy, hk, rfl⟩ := get_mem hg
 have hv := hr.each y hy
 have hvl := hr.v_lt hy
 have hroid := roX_id y.val
 have e1 : ∀ xs, (h ++ xs)[y.val.v]? = some (ptC y.val.p (roX y.val)) := fun xs => by rw [List.getElem?_append_left hvl]; exact hv
 have e3 : ∀ xs cs, (h ++ xs).set y.val.v cs = h.set y.val.v cs ++ xs := fun xs cs => List.set_append_left _ _ hvl
 have e4 : ∀ X, (h.set y.val.v X)[y.val.v]? = some X := fun X => List.getElem?_set_self hvl
 have e5 : ∀ X xs, (h.set y.val.v X ++ xs)[y.val.v]? = some X := fun X xs => by rw [List.getElem?_append_left (by simpa using hvl), e4]
 have e6 : ∀ X xs cs, (h.set y.val.v X ++ xs).set y.val.v cs = h.set y.val.v cs ++ xs := fun X xs cs => by rw [List.set_append_left _ _ (by simpa using hvl), List.set_set]
 have hF := rowsL_lt
 by_cases hL : L = []
 ·subst hL
  have hset : ltL h.length (ptC (ranP y.val.p []) (.sl 1 [] none .no)) := by simp [ptC]
  refine ⟨h.set y.val.v (ptC (ranP y.val.p []) (.sl 1 [] none .no)), pvars y.val, ?_, hr.turn ho hy hk (x' := ⟨y.val.v, ranP y.val.p [], h.length, 0⟩) rfl (by simp) ?_ (fun hne => absurd rfl hne) (fun q hq hn => List.getElem?_set_ne fun e => hn (by rw [<- e]; exact pvars_v _)) (fun hne => absurd rfl hne) (by rw [List.length_set]; exact ltLL_set hr.lt hset) (fun hp => plainH_set hp (ptC_id rfl) _)⟩
  ·refine contract_of k91 mixed (by simp [c91]) fun hh hargs => ?_
   have hl := ltLL_set (i := y.val.v) hh hset
   have hpv := pvars_v y.val
   simp [c91]
   refine xcall_self (by simp) (pfind_s hr hg) ?_
   simp [hv, ptC, hran]
   refine xcall_self (by simp) (cloneRows_e (.inl rfl)) ?_
   have hl' := hl
   simp only [ptC, ranP] at hl'
   simp [hv, e4, ptC, ranP, hl', hpv]
  ·rw [List.getElem?_set_self hvl]; rfl
 ·have hro : roX ⟨y.val.v, ranP y.val.p L, h.length, 0⟩ = .bsl h.length 0 1 L.length := by unfold roX; exact if_neg hL
  have hset : ltL (h.length + 1) (ptC (ranP y.val.p L) (.bsl h.length 0 1 L.length)) := by simp [ptC]
  have hset1 : ltLL (h.length + 1) (h.set y.val.v (ptC (ranP y.val.p L) (.bsl h.length 0 1 L.length))) := ltLL_set (ltLL_mono (Nat.le_add_right h.length 1) hr.lt) hset
  refine ⟨h.set y.val.v (ptC (ranP y.val.p L) (.bsl h.length 0 1 L.length)) ++ [L.map rowA], pvars y.val, ?_, hr.turn ho hy hk (x' := ⟨y.val.v, ranP y.val.p L, h.length, 0⟩) rfl (by simp) ?_ (fun _ => ⟨L.map rowA, ?_, ?_, ?_⟩) (fun q hq hn => ?_) (fun _ => .inl (Nat.le_refl _)) ?_ (fun hp => plainH_append (plainH_set hp (ptC_id rfl) _) ?_)⟩
  ·refine contract_of k91 mixed (by simp [c91]) fun hh hargs => ?_
   have hpv := pvars_v y.val
   simp [c91]
   refine xcall_self (by simp) (pfind_s hr hg) ?_
   simp [hv, ptC, hran]
   refine xcall_self (by simp) (cloneRows_x (.inl rfl) hL hf) ?_
   have hl' := hset1
   simp only [ptC, ranP] at hl'
   simp [e1, e3, e5, e6, ptC, ranP, hl', hpv, hF]
  ·rw [List.getElem?_append_left (by simpa using hvl), List.getElem?_set_self hvl, hro]
  ·rw [List.getElem?_append_right (by simp)]; simp
  ·show (List.drop 0 (L.map rowA)).take L.length = L.map rowA
   rw [List.drop_zero, List.take_of_length_le (by simp)]
  ·show 0 + L.length <= (L.map rowA).length
   simp
  ·rw [List.getElem?_append_left (by simpa using hq), List.getElem?_set_ne fun e => hn (by rw [<- e]; exact pvars_v _)]
  ·rw [ltLL_append, List.length_append, List.length_set]
   exact ⟨hset1, by simp [hF]⟩
  ·intro z hz; rw [List.mem_singleton.1 hz]; exact rowsL_id _
end
section
variable {h : List (List AV)} {i : Nat} {S : Ps}
def nilA : AV := .sl 0 [] (some true) .exact
theorem ptake_e {v : Nat} {p : Pt} (hv : h[v]? = some (ptC p (.sl 1 [] none .no))) : Contract Tryz.prog 154 [.box v 0, .v (.int .i64 0)] h (.sl 1 [] none .no) h [v] := by
 have hvl := (List.getElem?_eq_some_iff.1 hv).1
 have hs : h.set v (ptC p (.sl 1 [] none .no)) = h := by
  obtain ⟨h1, h2⟩ := List.getElem?_eq_some_iff.1 hv
  rw [<- h2, List.set_getElem_self]
 simp only [ptC] at hs
 refine contract_of k154 mixed (by simp [c154]) fun hh hargs => ?_
 simp [c154, hv, ptC]
 refine xcall_self (by simp) (clone_row_e (.inl rfl)) ?_
 simp [hv, ptC, hs, hh]
set_option maxHeartbeats 1000000 in
theorem ptake_c {v b o n : Nat} {p : Pt} {cs : List AV} (hv : h[v]? = some (ptC p (.bsl b o 1 p.rows.length))) (hb : h[b]? = some cs) (hd : (cs.drop o).take p.rows.length = p.rows.map rowA) (ho : o + p.rows.length <= cs.length) (hne : v ≠ b) (hn : 1 <= n) (hnl : n <= p.rows.length) (hl : p.rows.length <= 1000000) :
  Contract Tryz.prog 154 [.box v 0, .v (.int .i64 (n : Int))] h (.sl 1 (enc rowKC (p.rows.take n)) none .no) ((h.set b (lay cs o (List.replicate n nilA))).set v (ptC p (.bsl b (o + n) 1 (p.rows.length - n)))) [v, b] := by
 have hvl := (List.getElem?_eq_some_iff.1 hv).1
 have hbl := (List.getElem?_eq_some_iff.1 hb).1
 obtain ⟨L, hL⟩ : ∃ L, L = p.rows.take n := ⟨_, rfl⟩
 have hLl : L.length = n := by rw [hL, List.length_take]; omega
 have hLne : L ≠ [] := fun e => by rw [e] at hLl; simp at hLl; omega
 have hx : RowsX h (.bsl b o 1 n) L := by
  refine .inr ⟨b, o, cs, by rw [hLl], hb, ?_, by omega⟩
  have := congrArg (List.take n) hd
  rw [List.take_take, Nat.min_eq_left hnl, <- List.map_take, <- hL] at this
  rw [hLl, this]
 have hcl := clone_row_x hx hLne (by omega)
 rw [hLl] at hcl
 have hz := rows_frzd L h.length
 rw [hLl] at hz
 have hF := fun n => rowsL_lt n L
 have hbv : ∀ X, (h.set b X)[v]? = some (ptC p (.bsl b o 1 p.rows.length)) := fun X => by rw [List.getElem?_set_ne (Ne.symm hne)]; exact hv
 have hon : o + n <= cs.length := by omega
 have ht : ((p.rows.length : Int) - (n : Int)).toNat = p.rows.length - n := by omega
 have hnl' : (n : Int) <= (p.rows.length : Int) := by omega
 rw [<- hL]
 refine contract_cut (XCode.cuts [false, true] c154.code) k154 rfl mixed (by simp [c154]) fun hh hargs => ?_
 simp [c154]
 refine xseq_frz h.length (L.map rowA) ⟨[(0, .box v 0), (1, .v (.int .i64 (n : Int))), (5, .sl 1 (enc rowKC L) none .no)], [], h, []⟩ (Nat.le_refl _) (rows_frz L hLne) ?_ ?_
 ·simp [hv, ptC]
  refine ⟨hnl, ?_⟩
  refine xcall_self (by simp) hcl ?_
  simp [Leq, hh, hz, hvl]
 ·have hlt1 : ltL h.length (lay cs o (List.replicate n nilA)) := by
   have hcs : ltL h.length cs := ltLL_get hh _ _ hb
   exact ltL_of fun j c hj => by
    rcases lay_mem _ _ _ _ (List.mem_of_getElem? hj) with h1 | h1
    ·obtain ⟨q, hq⟩ := List.getElem?_of_mem h1
     exact ltL_get hcs q c hq
    ·rw [List.eq_of_mem_replicate h1]; trivial
  have hlt2 : ltLL h.length (h.set b (lay cs o (List.replicate n nilA))) := ltLL_set hh hlt1
  have hlt3 : ltLL h.length ((h.set b (lay cs o (List.replicate n nilA))).set v (ptC p (.bsl b (o + n) 1 (p.rows.length - n)))) := by
   refine ltLL_set hlt2 ?_
   simp [ptC, hbl]
  simp only [ptC, nilA] at hlt3
  simp [hv, hb, hbv, ptC, nilA, hon, hnl, hnl', ht, hh, hlt3]
  exact leqH_take (by simp)
def fetchN (most : Int) (len : Nat) : Nat := if most < 1 then len else min most.toNat len
theorem fetchN_le (most : Int) (len : Nat) : fetchN most len <= len := by unfold fetchN; split <;> omega
theorem fetchN_pos {most : Int} {len : Nat} (h : 1 <= len) : 1 <= fetchN most len := by unfold fetchN; split <;> omega
theorem fetch_min (most : Int) (len : Nat) : minZ (if most < 1 then (len : Int) else most) [(len : Int)] = (fetchN most len : Int) := by
 unfold fetchN minZ
 simp only [List.foldl]
 by_cases h : most < 1
 ·simp [h]
 ·rw [if_neg h, if_neg h]
  split <;> omega
def fetchP (p : Pt) (n : Nat) : Pt := { p with rows := p.rows.drop n, over := decide (p.rows.drop n = []) }
def fetchX (x : PV) (most : Int) : PV := ⟨x.v, fetchP x.p (fetchN most x.p.rows.length), x.b, x.o + fetchN most x.p.rows.length⟩
theorem pfetch_n (hr : PsAt h i S) {k : List UInt8} (hg : S.get k = none) (most : Int) : Contract Tryz.prog 92 [.box i 0, .v (.string (strB k)), .v (.int .i64 most)] h (.tup [.sl 1 (enc rowKC []) none .no, .v (.bool false)]) h [] := by
 refine contract_of k92 mixed (by simp [c92]) fun hh hargs => ?_
 simp [c92]
 refine xcall_self (by simp) (pfind_n hr hg) ?_
 simp [hh]
theorem pfetch_no (hr : PsAt h i S) {k : List UInt8} {x : PV} (hg : S.get k = some x) (hno : x.p.ran = false \/ x.p.over = true) (most : Int) : Contract Tryz.prog 92 [.box i 0, .v (.string (strB k)), .v (.int .i64 most)] h (.tup [.sl 1 (enc rowKC []) none .no, .v (.bool false)]) h [] := by
 obtain ⟨y, hy, hk, rfl⟩ := get_mem hg
 have hv := hr.each y hy
 refine contract_of k92 mixed (by simp [c92]) fun hh hargs => ?_
 simp [c92]
 refine xcall_self (by simp) (pfind_s hr hg) ?_
 cases hran : y.val.p.ran with
 | false => simp [hv, ptC, hran, hh]
 | true =>
  have hov : y.val.p.over = true := by simpa [hran] using hno
  simp [hv, ptC, hran, hov, hh]
set_option maxHeartbeats 1000000 in
theorem pfetch_d (hr : PsAt h i S) (ho : PsOk S) {k : List UInt8} {x : PV} (hg : S.get k = some x) (hran : x.p.ran = true) (hov : x.p.over = false) (most : Int) :
  DoesP 92 [.box i 0, .v (.string (strB k)), .v (.int .i64 most)] h i S (.tup [.sl 1 (enc rowKC (x.p.rows.take (fetchN most x.p.rows.length))) none .no, .v (.bool (!decide (x.p.rows.drop (fetchN most x.p.rows.length) = [])))]) (S.put k (fetchX x most)) := by
 have hfit := ho.gfit hg
 obtain ⟨y, hy, hk, rfl⟩ := get_mem hg
 have hv := hr.each y hy
 have hvl := hr.v_lt hy
 have e4 : ∀ X, (h.set y.val.v X)[y.val.v]? = some X := fun X => List.getElem?_set_self hvl
 obtain ⟨_, _, _, hl1, _⟩ := hfit
 have hmin := fetch_min most y.val.p.rows.length
 have hle := fetchN_le most y.val.p.rows.length
 obtain ⟨n, hn⟩ : ∃ n, n = fetchN most y.val.p.rows.length := ⟨_, rfl⟩
 have hfx : fetchX y.val most = ⟨y.val.v, fetchP y.val.p n, y.val.b, y.val.o + n⟩ := by unfold fetchX; rw [<- hn]
 rw [hfx, <- hn]
 rw [<- hn] at hmin hle
 by_cases hrows : y.val.p.rows = []
 ·have hro : roX y.val = .sl 1 [] none .no := by unfold roX; rw [if_pos hrows]
  rw [hro] at hv
  have hn0 : n = 0 := by rw [hrows] at hle; simpa using hle
  subst hn0
  have htk := ptake_e hv
  have hset : ltL h.length (ptC (fetchP y.val.p 0) (.sl 1 [] none .no)) := by simp [ptC]
  have hf0 : (fetchP y.val.p 0).rows = [] := by unfold fetchP; simp [hrows]
  have hfo : (fetchP y.val.p 0).over = true := by unfold fetchP; simp [hrows]
  have hro' : roX ⟨y.val.v, fetchP y.val.p 0, y.val.b, y.val.o + 0⟩ = .sl 1 [] none .no := by unfold roX; rw [if_pos hf0]
  refine ⟨h.set y.val.v (ptC (fetchP y.val.p 0) (.sl 1 [] none .no)), pvars y.val, ?_, hr.turn ho hy hk (x' := ⟨y.val.v, fetchP y.val.p 0, y.val.b, y.val.o + 0⟩) rfl (by simp) ?_ (fun hne => absurd hf0 hne) (fun q hq hn => List.getElem?_set_ne fun e => hn (by rw [<- e]; exact pvars_v _)) (fun hne => absurd hf0 hne) (by rw [List.length_set]; exact ltLL_set hr.lt hset) (fun hp => plainH_set hp (ptC_id rfl) _)⟩
  ·have hpv := pvars_v y.val
   have hl' := ltLL_set (i := y.val.v) hr.lt hset
   simp only [ptC, hfo] at hl'
   have hft : (fetchP y.val.p 0).text = y.val.p.text := rfl
   have hfi : (fetchP y.val.p 0).oids = y.val.p.oids := rfl
   have hfp : (fetchP y.val.p 0).ps = y.val.p.ps := rfl
   have hfr : (fetchP y.val.p 0).ran = true := hran
   rw [hft, hfi, hfp, hfr] at hl'
   rw [hrows] at hmin
   refine contract_of k92 mixed (by simp [c92]) fun hh hargs => ?_
   simp [c92]
   refine xcall_self (by simp) (pfind_s hr hg) ?_
   by_cases hm : most < 1
   ·simp [hm] at hmin
    simp [hv, ptC, hran, hov, hm]
    refine xcall_self (by simp) htk ?_
    simp [hv, e4, ptC, hft, hfi, hfp, hfr, hfo, hrows, hran, hl', hpv]
   ·simp [hm] at hmin
    simp [hv, ptC, hran, hov, hm, hmin]
    refine xcall_self (by simp) htk ?_
    simp [hv, e4, ptC, hft, hfi, hfp, hfr, hfo, hrows, hran, hl', hpv]
  ·rw [List.getElem?_set_self hvl, hro']
 ·have hro : roX y.val = .bsl y.val.b y.val.o 1 y.val.p.rows.length := by unfold roX; rw [if_neg hrows]
  have hrow0 := hv
  rw [hro] at hv
  obtain ⟨cs, hb, hd, hoc⟩ := hr.rows y hy hrows
  have hbl := hr.b_lt hy hrows
  have hne : y.val.v ≠ y.val.b := by
   have := (hr.own y hy).1
   unfold pvars at this
   rw [if_neg hrows] at this
   simpa using this
  have hrl : 1 <= y.val.p.rows.length := List.length_pos_iff.2 hrows
  have hn1 : 1 <= n := by rw [hn]; exact fetchN_pos hrl
  have htk := ptake_c (p := y.val.p) hv hb hd hoc hne hn1 hle hl1
  obtain ⟨H1, hH1⟩ : ∃ H, H = h.set y.val.b (lay cs y.val.o (List.replicate n nilA)) := ⟨_, rfl⟩
  rw [<- hH1] at htk
  have hH1l : H1.length = h.length := by rw [hH1, List.length_set]
  have e7 : ∀ X, (H1.set y.val.v X)[y.val.v]? = some X := fun X => List.getElem?_set_self (by omega)
  have hcsl : ltL h.length cs := ltLL_get hr.lt _ _ hb
  have hlay : ltL h.length (lay cs y.val.o (List.replicate n nilA)) := ltL_of fun j c hj => by
   rcases lay_mem _ _ _ _ (List.mem_of_getElem? hj) with h1 | h1
   ·obtain ⟨q, hq⟩ := List.getElem?_of_mem h1
    exact ltL_get hcsl q c hq
   ·rw [List.eq_of_mem_replicate h1]; trivial
  have hH1t : ltLL h.length H1 := by rw [hH1]; exact ltLL_set hr.lt hlay
  have hft : (fetchP y.val.p n).text = y.val.p.text := rfl
  have hfi : (fetchP y.val.p n).oids = y.val.p.oids := rfl
  have hfp : (fetchP y.val.p n).ps = y.val.p.ps := rfl
  have hfr : (fetchP y.val.p n).ran = true := hran
  have hfl : (fetchP y.val.p n).rows.length = y.val.p.rows.length - n := by show (y.val.p.rows.drop n).length = _; rw [List.length_drop]
  have hfo : (fetchP y.val.p n).over = decide (y.val.p.rows.length - n = 0) := by
   show decide (y.val.p.rows.drop n = []) = _
   refine decide_eq_decide.2 ?_
   rw [List.drop_eq_nil_iff]; omega
  have hdr : decide (y.val.p.rows.drop n = []) = decide (y.val.p.rows.length - n = 0) := hfo
  have hdc : (((y.val.p.rows.length - n : Nat) : Int) == 0) = decide (y.val.p.rows.length - n = 0) := by
   rw [Bool.eq_iff_iff]; simp
  obtain ⟨x', hx'⟩ : ∃ x' : PV, x' = ⟨y.val.v, fetchP y.val.p n, y.val.b, y.val.o + n⟩ := ⟨_, rfl⟩
  have hxro : roX x' = if y.val.p.rows.length - n = 0 then .sl 1 [] none .no else .bsl y.val.b (y.val.o + n) 1 (y.val.p.rows.length - n) := by
   rw [hx']; unfold roX
   show (if (fetchP y.val.p n).rows = [] then AV.sl 1 [] none .no else AV.bsl y.val.b (y.val.o + n) 1 (fetchP y.val.p n).rows.length) = _
   rw [hfl]
   by_cases e : y.val.p.rows.length - n = 0
   ·rw [if_pos e, if_pos (List.eq_nil_of_length_eq_zero (by rw [hfl]; exact e))]
   ·rw [if_neg e, if_neg (fun e2 => e (by rw [<- hfl, e2]; rfl))]
  have hxlt : (roX x').lt h.length := by rw [hxro]; split <;> simp [hbl]
  have hset : ltL h.length (ptC (fetchP y.val.p n) (roX x')) := ptC_lt hxlt
  have hsetL : ltLL h.length (H1.set y.val.v (ptC (fetchP y.val.p n) (roX x'))) := ltLL_set hH1t hset
  have hleq : LeqV (.cell y.val.v 3) (.bsl y.val.b (y.val.o + n) 1 (y.val.p.rows.length - n)) (roX x') := by
   rw [hxro]
   split
   ·rename_i e; simp [e]
   ·simp
  have hpb : y.val.b ∈ pvars y.val := pvars_b hrows
  have hP1 : plainH h -> plainH H1 := fun hp => by
   rw [hH1]
   refine plainH_set hp (fun c hc => ?_) _
   rcases lay_mem _ _ _ _ hc with h1 | h1
   ·exact hp cs (List.mem_of_getElem? hb) c h1
   ·rw [List.eq_of_mem_replicate h1]; rfl
  have hpv := pvars_v y.val
  rw [<- hx']
  refine ⟨H1.set y.val.v (ptC (fetchP y.val.p n) (roX x')), pvars y.val, ?_, hr.turn ho hy hk (x' := x') (by rw [hx']) (by simp [hH1l]) ?_ (fun hne2 => ?_) (fun q hq hnq => ?_) (fun _ => .inr ⟨by rw [hx'], hrows⟩) (by rw [List.length_set, hH1l]; exact hsetL) (fun hp => plainH_set (hP1 hp) (ptC_id (roX_id _)) _)⟩
  ·have hl' := hsetL
   simp only [ptC] at hl'
   rw [hft, hfi, hfp, hfr, hfo] at hl'
   refine contract_of k92 mixed (by simp [c92]) fun hh hargs => ?_
   simp [c92]
   refine xcall_self (by simp) (pfind_s hr hg) ?_
   by_cases hm : most < 1
   ·rw [if_pos hm] at hmin
    simp [hv, ptC, hran, hov, hm]
    rw [hmin]
    refine xcall_self (by simp) htk ?_
    simp [e7, ptC, hft, hfi, hfp, hfr, hfo, hran, hl', hpv, hpb, hdr, hdc]
    exact ⟨by omega, by omega, .inl hleq, by rw [hH1l]; exact hl'⟩
   ·rw [if_neg hm] at hmin
    simp [hv, ptC, hran, hov, hm]
    rw [hmin]
    refine xcall_self (by simp) htk ?_
    simp [e7, ptC, hft, hfi, hfp, hfr, hfo, hran, hl', hpv, hpb, hdr, hdc]
    exact ⟨by omega, by omega, .inl hleq, by rw [hH1l]; exact hl'⟩
  ·rw [List.getElem?_set_self (by omega)]; rw [hx']
  ·have hr2 : x'.p.rows = y.val.p.rows.drop n := by rw [hx']; rfl
   have hb2 : x'.b = y.val.b := by rw [hx']
   have ho2 : x'.o = y.val.o + n := by rw [hx']
   rw [hb2, ho2, hr2]
   refine ⟨lay cs y.val.o (List.replicate n nilA), ?_, ?_, ?_⟩
   ·rw [List.getElem?_set_ne hne, hH1, List.getElem?_set_self hbl]
   ·refine List.ext_getElem? fun j => ?_
    rw [List.getElem?_take]
    have hdj := congrArg (fun l => l[n + j]?) hd
    simp only [List.getElem?_take] at hdj
    by_cases hj : j < (y.val.p.rows.drop n).length
    ·rw [if_pos hj, List.getElem?_drop, lay_get _ _ _ _ (by rw [List.length_replicate]; omega), if_neg (by rw [List.length_replicate]; omega)]
     rw [List.length_drop] at hj
     rw [if_pos (by omega), List.getElem?_drop] at hdj
     rw [show y.val.o + n + j = y.val.o + (n + j) by omega, hdj, List.getElem?_map, List.getElem?_map, List.getElem?_drop]
    ·rw [if_neg hj, List.getElem?_eq_none (by simpa using hj)]
   ·rw [lay_length, List.length_drop]; omega
  ·have h1 : q ≠ y.val.v := fun e => hnq (by rw [e]; exact hpv)
   have h2 : q ≠ y.val.b := fun e => hnq (by rw [e]; exact hpb)
   rw [List.getElem?_set_ne (Ne.symm h1), hH1, List.getElem?_set_ne (Ne.symm h2)]
end
theorem sortS_perm {l m : List (List UInt8)} (h : l.Perm m) : sortS l = sortS m := by
 have h1 : (sortS l).Perm (sortS m) := (List.mergeSort_perm ..).trans (h.trans (List.mergeSort_perm ..).symm)
 have so : ∀ l : List (List UInt8), (sortS l).Pairwise (fun x y => decide (x <= y) = true) := fun l => List.pairwise_mergeSort (fun a b c h1 h2 => by simp at *; exact List.le_trans h1 h2) (fun a b => by simp; exact List.le_total a b) _
 exact h1.eq_of_pairwise (fun a b _ _ h1 h2 => by simp at h1 h2; exact List.le_antisymm h1 h2) (so _) (so _)
theorem vE_strV (l : List (List UInt8)) : vE (strV l) = enc strC l := by
 unfold vE strV enc
 rw [List.map_map]
 rfl
section
variable {h : List (List AV)} {i : Nat} {S : Ps}
end
theorem leqH_kept {H h : List (List AV)} (hl : h.length <= H.length) (hs : ∀ q < h.length, H[q]? = h[q]?) : leqH 0 (H.take h.length) h := by
 have e : H.take h.length = h := by
  refine List.ext_getElem? fun q => ?_
  rw [List.getElem?_take]
  split
  ·rename_i hq; exact hs q hq
  ·rename_i hq; rw [List.getElem?_eq_none (by omega)]
 rw [e]; exact leqH_refl _ _
def newS (a : Nat) : Ps := ⟨a, 0, []⟩
theorem newS_ok (a : Nat) : PsOk (newS a) := ⟨⟨List.nodup_nil, List.nodup_nil, fun x hx => by cases hx⟩, fun x hx => by cases hx⟩
theorem Ps.get_put {S : Ps} (ho : PsOk S) (k : List UInt8) (x : PV) (k' : List UInt8) : (S.put k x).get k' = if k' = k then some x else S.get k' := KE.get_put ho.ok k x k'
section
variable {h : List (List AV)} {i : Nat}
variable {p : AV}
end
end Go.Proofs.YtknohkmpficjgaaGreatDoor.Ax
