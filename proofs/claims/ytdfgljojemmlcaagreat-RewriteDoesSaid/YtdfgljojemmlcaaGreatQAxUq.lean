import Derived.Test.YtdfgljojemmlcaaGreatQAxUd
set_option linter.unusedSimpArgs false
set_option linter.unusedVariables false
open List renaming getElem?_eq_some_iff -> Q0, take_of_length_le -> Q1, getElem?_append_left -> Q2, getElem?_set_ne -> Q4, length_append -> Q6, length_singleton -> Q7, length_set -> Q8, mem_singleton -> Q9, getElem?_set_self -> Ra, nil_append -> Re, mem_cons -> Rf, pairwise_cons -> Rh, append_assoc -> Ri, mem_map -> Rj, take -> Rk
open Nat renaming le_add_right -> Q3, le_refl -> Q5
open Option renaming not_isSome_iff_eq_none -> Rb, isSome_iff_exists -> Rd
open Classical renaming byContradiction -> Rc
namespace Go.Proofs.YtdfgljojemmlcaaGreat.Ax
open Go.RowKit Go By
set_option maxRecDepth 10000
theorem kD {R : Rg} {id k i x : Nat} : x ∈ (R.upd id k).touch i ↔ x ∈ R.touch i := by rw [Rg.upd_touch]
theorem dO {R : Rg} {m : Sm} {nb i x : Nat} (h : x ∈ (R.put m nb).touch i) : x ∈ R.touch i \/ x = nb := by
 unfold Rg.put at h
 by_cases hk : bb m = true
 ·rw [if_pos hk] at h
  unfold Rg.putS at h
  cases hs : R.findS m with
  | some s => rw [hs] at h; exact .inl (kD.1 h)
  | none =>
   rw [hs] at h
   have h := kD.1 h
   have h : x ∈ i :: R.a :: R.b :: (R.l ++ [(⟨R.last + 1, 0, m, nb⟩ : Sl)]).map Sl.box := h
   simp only [List.map_append, Rf, List.mem_append, List.map_cons, List.map_nil, List.not_mem_nil, or_false] at h
   unfold Rg.touch
   simp only [Rf]
   rcases h with h | h | h | h | h
   ·exact .inl (.inl h)
   ·exact .inl (.inr (.inl h))
   ·exact .inl (.inr (.inr (.inl h)))
   ·exact .inl (.inr (.inr (.inr h)))
   ·exact .inr h
 ·rw [if_neg hk] at h; exact .inl h
end Go.Proofs.YtdfgljojemmlcaaGreat.Ax
namespace Go.Proofs.YtdfgljojemmlcaaGreat.Ax
open Go.RowKit Go By Sc Dg
set_option maxRecDepth 10000
def dK (m : Fm) (id : Int) (c : Oc) : En := ⟨2, false, [], [], [⟨true, m.name, id⟩], if m.name = [] then [⟨false, [], 0⟩] else [], [c], []⟩
def gq (m : Fm) (id : Int) : En := ⟨cN m.kind m.what, false, an id, m.name, [], [], [⟨3, id⟩], []⟩
def cf (m : Fm) : Sm := ⟨m.text, m.oids⟩
def uM : Bk := ⟨51, 0, [], [], [], 0, 0, [], [], [], []⟩
def ly (m : Fm) : En := ⟨10, false, [], [], [⟨false, m.name, 0⟩], [], [], cT [uM]⟩
def lX (m : Fm) : List En := if m.kind = 72 then [] else if m.kind = 81 then [⟨9, false, [], [], [⟨false, [], 0⟩], [], [], []⟩] else [⟨cN m.kind m.what, false, [], [], [], [], [], []⟩]
def dm (spec : List Int) (most : Int) (R : Rg) (o : Option Int) (m : Fm) : List Fm × List En :=
 if o.isSome = true /\ m.name ≠ [] then ([named m dupN], [dc m dupN])
 else if R.putId (cf m) = 0 then ([], [])
 else if spec.contains (R.putId (cf m) : Int) = true then ([named m []], [dK m (R.putId (cf m)) ⟨3, R.putId (cf m)⟩])
 else (cA spec most ++ [named m (an (R.putId (cf m)))], roomE spec most ++ [dK m (R.putId (cf m)) ⟨1, R.putId (cf m)⟩])
def dy (spec : List Int) (most : Int) (R : Rg) (o : Option Int) (m : Fm) : List Fm × List En := match o with
 | none => ([named m noneN], [dc m noneN])
 | some id => (ba spec most id (mH (R.find id)) ++ [named m (an id)], aI spec most id ++ [gq m id])
def eC (m : Fm) : Prop := m.kind = 66 \/ (m.kind = 68 /\ m.what = 83)
instance (m : Fm) : Decidable (eC m) := by unfold eC; infer_instance
def cG (spec : List Int) (most : Int) (R : Rg) (o : Option Int) (m : Fm) : List Fm × List En :=
 if ey m = false then ([], [])
 else if m.kind = 80 then dm spec most R o m
 else if eC m then dy spec most R o m
 else if m.kind = 67 /\ m.what = 83 then ([], [ly m])
 else ([m], lX m)
def gd (R : Rg) (o : Option Int) (m : Fm) (nb : Nat) : Rg := if o.isSome = true /\ m.name ≠ [] then R else R.put (cf m) nb
def jf (spec : List Int) (most : Int) (R : Rg) (o : Option Int) (m : Fm) (nb : Nat) : Rg :=
 if ey m = false then R
 else if m.kind = 80 then kp (gd R o m nb) (aE (dm spec most R o m).2)
 else if eC m then kp R (aE (dy spec most R o m).2)
 else R
def At (f : FuncId) (args : List AV) (lo : Nat) (h : List (List AV)) (i : Nat) (R : Rg) (F : List Fm) (E : List En) (R' : Rg) : Prop :=
 ∃ h', Contract Tryz.prog f args h (.tup [.sl 10 (ai aG F) none .no, .sl 8 (ai aK E) none .no]) h' (R.touch i) /\ RegAt lo h' i R' /\ h.length <= h'.length /\ (∀ k < h.length, k ∉ R.touch i -> h'[k]? = h[k]?) /\ (aQ h -> aQ h') /\ ∀ x ∈ R'.touch i, x ∈ R.touch i \/ h.length <= x
theorem RegAt.touch_lt0 {lo : Nat} {h : List (List AV)} {i : Nat} {R : Rg} (hr : RegAt lo h i R) : ∀ k ∈ R.touch i, k < h.length := fun k hk => by
 unfold Rg.touch at hk
 simp only [Rf] at hk
 rcases hk with rfl | rfl | rfl | hk
 ·exact hr.i_lt
 ·exact (Q0.1 hr.recs).1
 ·exact (Q0.1 hr.ids).1
 ·obtain ⟨s, hs, rfl⟩ := Rj.1 hk; exact hr.box_lt hs
section
variable {h : List (List AV)} {lo : Nat} {R : Rg} {j : Jb}
theorem sq (hr : RegAt lo h j.i R) {n : Nat} (ho : RgOk n R) (hi2 : j.it < h.length) {fv ev : AV} {F : List Fm} {E : List En} (hf : LsV aG 10 h fv F) (he : LsV aK 8 h ev E) (hfe : ∀ q ∈ eT fv, q ∉ eT ev) (hfr : ∀ q ∈ eT fv, q ∉ R.touch j.i) (her : ∀ q ∈ eT ev, q ∉ R.touch j.i)
  (hF : F.length <= 100) (hE : E.length <= 100) (name : List UInt8) (e : En) (hn : n + (aE (E ++ [e])).length <= 1000) :
  ∃ h', Contract Tryz.prog 61 [.agg (cq j), .v (.string (ah name)), fv, ev, .agg (aK e)] h (.tup [.sl 10 (ai aG (F ++ [named j.m name])) none .no, .sl 8 (ai aK (E ++ [e])) none .no]) h' (eT fv ++ (eT ev ++ R.touch j.i)) /\
   RegAt lo h' j.i (kp R (aE (E ++ [e]))) /\ h'.length = h.length /\ (∀ q, q ∉ eT fv -> q ∉ eT ev -> q ∉ R.touch j.i -> h'[q]? = h[q]?) /\ (aQ h -> aQ h') /\ (kp R (aE (E ++ [e]))).touch j.i = R.touch j.i := by
 have ct := xh hr ho hi2 hf he hfe hfr her hF hE name e hn
 have hkl := cW ev h
 have hr1 : RegAt lo (bK ev h) j.i R := hr.keep0 (fun q hq => dt fun hq2 => her q hq2 hq) (by rw [hkl]; exact eu hr.lt)
 have hok := s8 (aE (E ++ [e])) hr1 ho hn
 refine ⟨_, ct, hok.at_.keep0 (fun q hq => dt fun hq2 => ?_) ?_, by rw [cW, hok.len, hkl], fun q h1 h2 h3 => ?_, fun hp => gH (hok.plain (gH hp)), hok.touch⟩
 ·rw [hok.touch] at hq; exact hfr q hq2 hq
 ·rw [cW]; exact eu hok.at_.lt
 ·rw [dt h1, hok.get q h3, dt h2]
theorem xn (hr : RegAt lo h j.i R) {n : Nat} (ho : RgOk n R) (hn : n <= 1000) (hi2 : j.it < h.length) (name : List UInt8) :
  Contract Tryz.prog 56 [.agg (cq j), .v (.string (ah name))] h (.tup [.sl 10 (ai aG [named j.m name]) none .no, .sl 8 (ai aK [dc j.m name]) none .no]) h (R.touch j.i) := by
 have hi := hr.i_lt
 refine ab Qw mixed (by simp [L5]) fun hh hargs => ?_
 have hJ := iT (j := j) (n := h.length + 1) (by omega) (by omega)
 have hr1 := hr.app [cq j] (by simpa using hJ)
 have ht : h.length ∉ R.touch j.i := fun hq => by have := hr.touch_lt0 _ hq; omega
 have ct := xh hr1 ho (by simp; omega) (gu aG 10 _) (gu aK 8 _) (by simp [eT]) (by simp [eT]) (by simp [eT]) (by simp) (by simp) name (dc j.m name) (by simpa [aE, dc] using hn)
 have e1 : (kk R (bK (.sl 0 [] (some true) .exact) (h ++ [cq j])) (aE ([] ++ [dc j.m name]))).2 = h ++ [cq j] := rfl
 rw [e1] at ct
 have e2 : bK (.sl 0 [] (some true) .exact) (h ++ [cq j]) = h ++ [cq j] := rfl
 rw [e2] at ct
 simp only [Re, eT] at ct
 simp [L5]
 refine aa (by simp) (jc (j := j) name (by simp; omega) (by simp; omega)) ?_
 simp
 refine aa (by simp) ct ?_
 simp [hh, ht]
 exact fun _ h _ => h
end
theorem py (spec : List Int) (most : Int) : (aE (roomE spec most)).length <= 1 := by
 unfold roomE; split <;> simp [aE, cL]
section
variable {h : List (List AV)} {lo lo2 : Nat} {R : Rg} {j : Jb} {T : Tb}
theorem yh {m : Fm} (hm : FmSh m) : (ce (cf m)).length <= 100000 := rX (by
 have h1 := hm.text
 have h2 := hm.oids
 unfold xY cf
 simp
 omega)
theorem ry (m : Fm) (id : Int) (c : Oc) : aK (dK m id c) = [.v (.int .i64 2), .v (.bool false), .v (.string (ah [])), .v (.string (ah [])), .sl 3 [mY ⟨true, m.name, id⟩] none .no, .sl 3 (if m.name = [] then [mY ⟨false, [], 0⟩] else []) none .no, .sl 2 [jg c] none .no, .sl 1 [] none .no] := by
 unfold dK
 by_cases hn : m.name = []
 ·simp [aW, hn]
 ·simp [aW, hn]
def ic (m : Fm) (id : Int) : En := { dK m id ⟨0, 0⟩ with cache := [] }
theorem cv (m : Fm) (id : Int) : aK (ic m id) = [.v (.int .i64 2), .v (.bool false), .v (.string (ah [])), .v (.string (ah [])), .sl 3 [mY ⟨true, m.name, id⟩] none .no, .sl 3 (if m.name = [] then [mY ⟨false, [], 0⟩] else []) none .no, .sl 2 [] none .no, .sl 1 [] none .no] := by
 unfold ic dK
 by_cases hn : m.name = []
 ·simp [aW, hn]
 ·simp [aW, hn]
theorem di {X : List (List AV)} (x : List AV) {y : List AV} (hxy : dC X.length 0 x y) : jo 0 (X ++ [x]) (X ++ [y]) := dd X 0 ⟨.inr (by rw [Nat.zero_add]; exact hxy), trivial⟩
set_option maxHeartbeats 2000000 in
theorem y4 (hr : RegAt lo h j.i R) {n : Nat} (ho : RgOk n R) (hn : n + 10 <= 1000) (ht : TbAt lo2 h j.it T) (hl : j.l.length <= 1000000) (hg : ∀ x ∈ j.l, x.good.length <= 1000000) (hm : FmSh j.m) (hsp : j.spec.length <= 1000000)
  {o : Option Int} (hoo : dj j.m.name (T.get j.m.name) (opsOf j.l) = o) :
  At 28 [.agg (cq j)] lo h j.i R (dm j.spec j.most R o j.m).1 (dm j.spec j.most R o j.m).2 (kp (gd R o j.m (h.length + 3)) (aE (dm j.spec j.most R o j.m).2)) := by
 have hi := hr.i_lt
 have hi2 := ht.i_lt
 have hJ := iT (j := j) (n := h.length + 1) (by omega) (by omega)
 have hr1 := hr.app [cq j] (by simpa using hJ)
 have htl : h.length ∉ R.touch j.i := fun hq => by have := hr.touch_lt0 _ hq; omega
 have hkn := tV (ht.app [cq j] (by simpa using hJ)) hl hg (by simp; omega)
 rw [hoo] at hkn
 by_cases hA : o.isSome = true /\ j.m.name ≠ []
 ·have e1 : dm j.spec j.most R o j.m = ([named j.m dupN], [dc j.m dupN]) := if_pos hA
  have e2 : gd R o j.m (h.length + 3) = R := if_pos hA
  rw [e1, e2]
  refine ⟨h, ?_, hr, Q5 _, fun _ _ _ => rfl, fun h => h, fun x hx => .inl hx⟩
  refine ab Lr mixed (by simp [c28]) fun hh hargs => ?_
  simp [c28]
  refine aa (by simp) hkn ?_
  obtain ⟨x, rfl⟩ := Rd.1 hA.1
  have hne := hA.2
  simp [hne]
  refine aa (by simp) (E9 _) ?_
  simp
  refine aa (by simp) (xn hr1 ho (by omega) (by simp; omega) dupN) ?_
  simp [hh, htl]
  exact fun _ h _ => h
 ·have e0 : gd R o j.m (h.length + 3) = R.put (cf j.m) (h.length + 3) := if_neg hA
  rw [e0]
  obtain ⟨h1, ct1, hR1, hl1, hk1, hp1⟩ := zJ hr1 ho (by omega) (cf j.m) (by have := hm.oids; show j.m.oids.length <= _; omega) (yh hm)
  rw [show (h ++ [cq j]).length + 2 = h.length + 3 by simp] at hR1
  rw [Q6, Q7] at hl1 hk1
  have hj1 : h1[h.length]? = some (cq j) := by rw [hk1 _ (by omega) htl]; simp
  have hks : ∀ k < h.length, k ∉ R.touch j.i -> h1[k]? = h[k]? := fun k hk hk2 => by rw [hk1 k (by omega) hk2]; exact Q2 hk
  have hps : aQ h -> aQ h1 := fun hp => hp1 (aA hp fun x hx c hc => by rw [Q9.1 hx] at hc; exact na j c hc)
  have htc : ∀ x ∈ (R.put (cf j.m) (h.length + 3)).touch j.i, x ∈ R.touch j.i \/ h.length <= x := fun x hx => by
   rcases dO hx with h | h
   ·exact .inl h
   ·exact .inr (by omega)
  have ho1 := ho.put (cf j.m) ⟨by have := hm.text; show j.m.text.length <= _; omega, by have := hm.oids; show j.m.oids.length <= _; omega⟩ (h.length + 3)
  have hT : (∀ a, a ∈ R.touch j.i -> a < h.length -> a ∈ R.touch j.i) = True := eq_true fun _ h _ => h
  have e1 : ∀ p, (if o.isSome = true /\ j.m.name ≠ [] then ([named j.m dupN], [dc j.m dupN]) else p) = p := fun p => if_neg hA
  unfold dm
  rw [e1]
  by_cases hid : (R.putId (cf j.m) : Int) = 0
  ·rw [if_pos (by omega)]
   refine ⟨h1, ?_, hR1, by omega, hks, hps, htc⟩
   refine aF (XCode.cuts [false, true, false, false, false, true] c28.code) Lr rfl mixed (by simp [c28]) fun hh hargs => ?_
   have hh1 := al (Q3 h.length 1) hh
   have hh2 : aw (h1.length + 1) h1 := al (Q3 _ _) hR1.lt
   simp [c28]
   refine aU ⟨[(1, .box h.length 0)], [], h ++ [cq j], []⟩ ?_ ?_
   ·simp
    refine aa (by simp) hkn ?_
    cases o with
    | none => simp [Leq, hh1, hJ, ag]
    | some x =>
     have hne : j.m.name = [] := Rc fun hne => hA ⟨rfl, hne⟩
     simp [hne, Leq, hh1, hJ, ag]
   simp
   refine aj ct1 (by simp [cf, aR]) (by simp) ?_
   have hid2 : ((R.putId (cf j.m) : Int) == 0) = true := by simpa using hid
   have htk : h1.take h1.length = h1 := Q1 (Q5 _)
   simp [hid2, hj1, hR1.lt, ag, htk, hT]
   omega
  rw [if_neg (by omega)]
  have hset : ∀ c : Oc, (aK (ic j.m (R.putId (cf j.m)))).set 6 (.sl 2 [jg c] none .no) = aK (dK j.m (R.putId (cf j.m)) c) := fun _ => rfl
  have hid2 : ((R.putId (cf j.m) : Int) == 0) = false := by simpa using hid
  have hi1 : j.i < h1.length := by omega
  have n1 : h.length ∉ (R.put (cf j.m) (h.length + 3)).touch j.i := fun hq => by
   rcases dO hq with h | h
   ·exact htl h
   ·omega
  have n2 : h1.length ∉ (R.put (cf j.m) (h.length + 3)).touch j.i := fun hq => by have := hR1.touch_lt0 _ hq; omega
  have hTp : (∀ a, a ∈ (R.put (cf j.m) (h.length + 3)).touch j.i -> a < h.length -> a ∈ R.touch j.i) = True := eq_true fun a ha hl => by
   rcases dO ha with h | h
   ·exact h
   ·omega
  have hleq : ∀ xs, (h1 ++ xs).length = h1.length + xs.length := fun xs => Q6
  by_cases hc : j.spec.contains (R.putId (cf j.m) : Int) = true
  ·rw [if_pos hc]
   obtain ⟨h2, ct2, q1, q2, q3, q4, q5⟩ := sq (hR1.app [aK (dK j.m (R.putId (cf j.m)) ⟨3, R.putId (cf j.m)⟩)] (by simp)) ho1 (by simp; omega) (gu aG 10 _) (gu aK 8 _) (by simp [eT]) (by simp [eT]) (by simp [eT]) (by simp) (by simp) [] (dK j.m (R.putId (cf j.m)) ⟨3, R.putId (cf j.m)⟩) (by simp [aE, dK]; omega)
   simp only [Re, eT] at ct2 q1 q3 q5
   rw [hleq, Q7] at q2
   refine ⟨h2, ?_, q1, by omega, fun k hk hk2 => ?_, fun hp => q4 (aA (hps hp) fun x hx c hc => by rw [Q9.1 hx] at hc; exact cx _ c hc), fun x hx => htc x (by rw [q5] at hx; exact hx)⟩
   ·refine aF (XCode.cuts [false, true, false, false, false, true] c28.code) Lr rfl mixed (by simp [c28]) fun hh hargs => ?_
    have hh1 := al (Q3 h.length 1) hh
    have hh2 : aw (h1.length + 1) h1 := al (Q3 _ _) hR1.lt
    simp [c28]
    refine aU ⟨[(1, .box h.length 0)], [], h ++ [cq j], []⟩ ?_ ?_
    ·simp
     refine aa (by simp) hkn ?_
     cases o with
     | none => simp [Leq, hh1, hJ, ag]
     | some x =>
      have hne : j.m.name = [] := Rc fun hne => hA ⟨rfl, hne⟩
      simp [hne, Leq, hh1, hJ, ag]
    simp
    refine aj ct1 (by simp [cf, aR]) (by simp) ?_
    have hg1 : ∀ xs : List (List AV), (h1 ++ xs)[h.length]? = some (cq j) := fun xs => by rw [Q2 (by omega)]; exact hj1
    have hm3 : (R.putId (cf j.m) : Int) ∈ j.spec := by simpa using hc
    have hle2 : h.length <= h1.length + 1 := by omega
    simp [hid2, hj1]
    refine aU ⟨[(1, .box h.length 0), (6, .v (.int .i64 (R.putId (cf j.m) : Int))), (7, .box h1.length 0)], [], h1 ++ [aK (ic j.m (R.putId (cf j.m)))], R.touch j.i⟩ ?_ ?_
    ·by_cases hne : j.m.name = []
     ·simp [hne, hg1]
      refine aa (by simp) (iN [] _) ?_
      simp [Leq, hh2, hT, cv, hne, hg1, hle2]
      refine ⟨di _ (by simp [dC, LeqV, bG]), by omega, fun _ => by omega⟩
     ·simp [hne, Leq, hh2, hT, cv, hg1, hle2]
      refine ⟨di _ (by simp [dC, LeqV, bG]), by omega, fun _ => by omega⟩
    simp [hg1]
    refine aa (by simp) (sD hsp _) ?_
    simp [hm3]
    refine aa (by simp) (wn 3 _ _) ?_
    simp [hset, hg1]
    refine aa (by simp) ct2 ?_
    have htk : h2.take (h1.length + 1) = h2 := Q1 (by omega)
    have hlt := q1.lt
    rw [q2] at hlt
    simp [hlt, ag, htk, q2, hle2]
    exact fun i hi hil => by
     rcases hi with h | h | h
     ·rcases dO h with h | h
      ·exact h
      ·omega
     ·omega
     ·exact h
   ·rw [q3 k (by simp) (by simp) (fun hq => by rcases dO hq with h | h; exact hk2 h; omega), Q2 (by omega)]
    exact hks k hk hk2
  ·rw [if_neg hc]
   have lF0 := fun x => gA aG 10 x (cA j.spec j.most)
   have lE0 := fun x => gA aK 8 x (roomE j.spec j.most)
   have hrf := gX j.spec j.most
   have hro := py j.spec j.most
   have hroom := wJ j.spec hsp j.most (h1 ++ [aK (dK j.m (R.putId (cf j.m)) ⟨1, R.putId (cf j.m)⟩)])
   obtain ⟨h2, ct2, q1, q2, q3, q4, q5⟩ := sq (hR1.app [aK (dK j.m (R.putId (cf j.m)) ⟨1, R.putId (cf j.m)⟩)] (by simp)) ho1 (by simp; omega) (lF0 _).1 (lE0 _).1 (by rw [(lF0 h).2.1]; simp) (by rw [(lF0 h).2.1]; simp) (by rw [(lE0 h).2.1]; simp) (by omega) (by omega) (an (R.putId (cf j.m))) (dK j.m (R.putId (cf j.m)) ⟨1, R.putId (cf j.m)⟩) (by rw [show aE (roomE j.spec j.most ++ [dK j.m (R.putId (cf j.m)) ⟨1, R.putId (cf j.m)⟩]) = aE (roomE j.spec j.most) ++ [⟨1, R.putId (cf j.m)⟩] by simp [aE, dK], Q6, Q7]; omega)
   rw [(lF0 h).2.1, (lE0 h).2.1] at ct2 q3
   simp only [Re] at ct2
   rw [hleq, Q7] at q2
   have f1 := (lF0 h).1.id
   have f2 := (lF0 h).1.unown
   have f3 := (lF0 h).1.cells
   have g1 := (lE0 h).1.id
   have g2 := (lE0 h).1.unown
   have g3 := (lE0 h).1.cells
   generalize fm 10 aG (cA j.spec j.most) = fv at *
   generalize fm 8 aK (roomE j.spec j.most) = ev at *
   refine ⟨h2, ?_, q1, by omega, fun k hk hk2 => ?_, fun hp => q4 (aA (hps hp) fun x hx c hc => by rw [Q9.1 hx] at hc; exact cx _ c hc), fun x hx => htc x (by rw [q5] at hx; exact hx)⟩
   ·refine aF (XCode.cuts [false, true, false, false, false, true] c28.code) Lr rfl mixed (by simp [c28]) fun hh hargs => ?_
    have hh1 := al (Q3 h.length 1) hh
    have hh2 : aw (h1.length + 1) h1 := al (Q3 _ _) hR1.lt
    simp [c28]
    refine aU ⟨[(1, .box h.length 0)], [], h ++ [cq j], []⟩ ?_ ?_
    ·simp
     refine aa (by simp) hkn ?_
     cases o with
     | none => simp [Leq, hh1, hJ, ag]
     | some x =>
      have hne : j.m.name = [] := Rc fun hne => hA ⟨rfl, hne⟩
      simp [hne, Leq, hh1, hJ, ag]
    simp
    refine aj ct1 (by simp [cf, aR]) (by simp) ?_
    have hg1 : ∀ xs : List (List AV), (h1 ++ xs)[h.length]? = some (cq j) := fun xs => by rw [Q2 (by omega)]; exact hj1
    have hm3 : ¬ (R.putId (cf j.m) : Int) ∈ j.spec := by simpa using hc
    have hle2 : h.length <= h1.length + 1 := by omega
    simp [hid2, hj1]
    refine aU ⟨[(1, .box h.length 0), (6, .v (.int .i64 (R.putId (cf j.m) : Int))), (7, .box h1.length 0)], [], h1 ++ [aK (ic j.m (R.putId (cf j.m)))], R.touch j.i⟩ ?_ ?_
    ·by_cases hne : j.m.name = []
     ·simp [hne, hg1]
      refine aa (by simp) (iN [] _) ?_
      simp [Leq, hh2, hT, cv, hne, hg1, hle2]
      refine ⟨di _ (by simp [dC, LeqV, bG]), by omega, fun _ => by omega⟩
     ·simp [hne, Leq, hh2, hT, cv, hg1, hle2]
      refine ⟨di _ (by simp [dC, LeqV, bG]), by omega, fun _ => by omega⟩
    simp [hg1]
    refine aa (by simp) (sD hsp _) ?_
    simp [hm3]
    refine aa (by simp) (wn 1 _ _) ?_
    simp [hset, hg1]
    refine aa (by simp) hroom ?_
    simp [hg1, f1, f2, f3, g1, g2, g3]
    refine aa (by simp) (dn _ _) ?_
    simp [f1, f2, f3, g1, g2, g3]
    refine aa (by simp [f1, g1]) ct2 ?_
    have htk : h2.take (h1.length + 1) = h2 := Q1 (by omega)
    have hlt := q1.lt
    rw [q2] at hlt
    simp [hlt, ag, htk, q2, hle2, n1, n2]
    exact fun i hi hil => by
     rcases hi with h | h | h
     ·rcases dO h with h | h
      ·exact h
      ·omega
     ·omega
     ·exact h
   ·rw [q3 k (by simp) (by simp) (fun hq => by rcases dO hq with h | h; exact hk2 h; omega), Q2 (by omega)]
    exact hks k hk hk2
end
section
variable {h : List (List AV)} {lo lo2 : Nat} {R : Rg} {j : Jb} {T : Tb}
theorem rH (spec : List Int) (most id : Int) : (aE (aI spec most id)).length <= 2 := by
 have := py spec most
 unfold aI
 split
 ·simp [aE]
 ·rw [show aE (roomE spec most ++ [cL 2 ⟨1, id⟩]) = aE (roomE spec most) ++ [⟨1, id⟩] by simp [aE, cL], Q6, Q7]; omega
theorem qe {n : Nat} (ho : RgOk n R) (id : Int) : (mH (R.find id)).text.length <= 1000 /\ (mH (R.find id)).oids.length <= 1000 := by
 cases hf : R.find id with
 | none => simp [mH]
 | some s => exact ho.short s (bh hf).1
set_option maxHeartbeats 2000000 in
theorem FT (hr : RegAt lo h j.i R) {n : Nat} (ho : RgOk n R) (hn : n + 10 <= 1000) (ht : TbAt lo2 h j.it T) (hl : j.l.length <= 1000000) (hg : ∀ x ∈ j.l, x.good.length <= 1000000) (hsp : j.spec.length <= 1000000)
  {o : Option Int} (hoo : dj j.m.name (T.get j.m.name) (opsOf j.l) = o) :
  At 29 [.agg (cq j)] lo h j.i R (dy j.spec j.most R o j.m).1 (dy j.spec j.most R o j.m).2 (kp R (aE (dy j.spec j.most R o j.m).2)) := by
 have hi := hr.i_lt
 have hi2 := ht.i_lt
 have hJ := iT (j := j) (n := h.length + 1) (by omega) (by omega)
 have hr1 := hr.app [cq j] (by simpa using hJ)
 have htl : h.length ∉ R.touch j.i := fun hq => by have := hr.touch_lt0 _ hq; omega
 have hkn := tV (ht.app [cq j] (by simpa using hJ)) hl hg (by simp; omega)
 rw [hoo] at hkn
 cases o with
 | none =>
  refine ⟨h, ?_, hr, Q5 _, fun _ _ _ => rfl, fun h => h, fun x hx => .inl hx⟩
  refine ab PJ mixed (by simp [c29]) fun hh hargs => ?_
  simp [c29]
  refine aa (by simp) hkn ?_
  simp
  refine aa (by simp) (B5 _) ?_
  simp
  refine aa (by simp) (xn hr1 ho (by omega) (by simp; omega) noneN) ?_
  simp [hh, htl, dy]
  exact fun _ h _ => h
 | some id =>
  obtain ⟨s, hs⟩ : ∃ s, mH (R.find id) = s := ⟨_, rfl⟩
  have hss := qe ho id
  have hget := Ff hr1 ho id
  rw [hs] at hss hget
  have hJ2 : aw (h.length + 2) [cq j, db s] := by simp [iT (j := j) (n := h.length + 2) (by omega) (by omega)]
  have hr2 := hr.app [cq j, db s] (by simpa using hJ2)
  obtain ⟨fv, ev, xs, ctr, hrd⟩ := x6 j.spec hsp j.most id s (by omega) (h ++ [cq j, db s])
  have hro := rH j.spec j.most id
  have hrf := mA j.spec j.most id s hss.1 hss.2
  have eo : dy j.spec j.most R (some id) j.m = (ba j.spec j.most id s ++ [named j.m (an id)], aI j.spec j.most id ++ [gq j.m id]) := by rw [<- hs]; rfl
  rw [eo]
  have hr3 := hr2.app xs hrd.lt
  obtain ⟨H, hH⟩ : ∃ H, H = h ++ [cq j, db s] ++ xs := ⟨_, rfl⟩
  have hHl : H.length = h.length + 2 + xs.length := by rw [hH]; simp; omega
  have hHg : ∀ k < h.length, H[k]? = h[k]? := fun k hk => by rw [hH, Ri]; exact Q2 hk
  have hHj : ∀ ys : List (List AV), (H ++ ys)[h.length]? = some (cq j) := fun ys => by rw [hH]; simp
  have l2 : (h ++ [cq j, db s]).length = h.length + 2 := by simp
  rw [<- hH] at ctr hr3
  have hf := hrd.f
  have he := hrd.e
  rw [<- hH] at hf he
  have kf := hrd.kf
  have ke := hrd.ke
  rw [l2] at kf ke
  have tlt := hr.touch_lt0
  obtain ⟨h2, ct2, q1, q2, q3, q4, q5⟩ := sq (hr3.app [aK (gq j.m id)] (by simp)) ho (by simp; omega) (hf.app _) (he.app _) (fun q hq => (kf q hq).2) (fun q hq hq2 => by have := (kf q hq).1; have := tlt q hq2; omega) (fun q hq hq2 => by have := ke q hq; have := tlt q hq2; omega) (by omega) (by omega) (an id) (gq j.m id)
   (by rw [show aE (aI j.spec j.most id ++ [gq j.m id]) = aE (aI j.spec j.most id) ++ [⟨3, id⟩] by simp [aE, gq], Q6, Q7]; omega)
  rw [Q6, Q7] at q2
  have f1 := hf.id
  have f2 := hf.unown
  have f3 := hf.cells
  have f4 := fun m (hm : H.length <= m) => hf.ltV fmE.lt hm
  have g1 := he.id
  have g2 := he.unown
  have g3 := he.cells
  have g4 := fun m (hm : H.length <= m) => he.ltV enE.lt hm
  have hset : (aK (dc j.m (an id))).set 6 (.sl 2 [jg ⟨3, id⟩] none .no) = aK (gq j.m id) := rfl
  refine ⟨h2, ?_, q1, by omega, fun k hk hk2 => ?_, fun hp => q4 ?_, fun x hx => ?_⟩
  ·refine aF (XCode.cuts [false, false, false, false, false, true] c29.code) PJ rfl mixed (by simp [c29]) fun hh hargs => ?_
   simp [c29]
   refine aa (by simp) hkn ?_
   simp
   refine aa (by simp) hget ?_
   simp
   refine aa (by simp) ctr ?_
   simp [f1, f2, f3, g1, g2, g3]
   have hHj0 : H[h.length]? = some (cq j) := by have := hHj []; rwa [List.append_nil] at this
   have hjn : ∀ ys : List (List AV), j.i < (H ++ ys).length /\ j.it < (H ++ ys).length := fun ys => by rw [Q6]; omega
   have hjn0 : j.i < H.length /\ j.it < H.length := by omega
   have hle : h.length <= H.length + 1 := by omega
   have hle1 : h.length < H.length + 1 := by omega
   have hHlt : aw (H.length + 1) H := al (Q3 _ _) hr3.lt
   have hf5 := f4 (H.length + 1) (by omega)
   have hg5 := g4 (H.length + 1) (by omega)
   have htk2 : ∀ x : List AV, (H ++ [x]).take (H.length + 1) = H ++ [x] := fun x => Q1 (by simp)
   refine aU ⟨[(1, .box h.length 0), (4, .v (.int .i64 id)), (8, fv), (9, ev), (10, .box H.length 0)], [], H ++ [aK (dc j.m (an id))], []⟩ ?_ ?_
   ·simp [hHj0, hHj]
    refine ⟨?_, ?_⟩
    ·refine aa (by simp) (dn id _) ?_
     simp [hHj0, hHj]
     refine ⟨?_, ?_⟩
     ·refine aa (by simp) (jc (j := j) (an id) hjn0.1 hjn0.2) ?_
      simp [hHj0, hHj, Leq, f1, f2, f3, g1, g2, g3, hle, hle1, hHlt, hf5, hg5, htk2, ag]
      omega
     ·refine aa (by simp) (jc (j := j) (an id) (hjn _).1 (hjn _).2) ?_
      simp [hHj0, hHj, Leq, f1, f2, f3, g1, g2, g3, hle, hle1, hHlt, hf5, hg5, htk2, ag]
      omega
    ·refine aa (by simp) (dn id _) ?_
     simp [hHj0, hHj]
     refine aa (by simp) (jc (j := j) (an id) (hjn _).1 (hjn _).2) ?_
     simp [hHj0, hHj, Leq, f1, f2, f3, g1, g2, g3, hle, hle1, hHlt, hf5, hg5, htk2, ag]
     omega
   simp [hHj0, hHj]
   refine aa (by simp) (wn 3 _ _) ?_
   have hlH : ∀ x : List AV, (H ++ [x])[H.length]? = some x := fun x => by simp
   simp [hHj0, hHj, hset, f1, f2, f3, g1, g2, g3]
   refine aa (by simp [f1, g1]) ct2 ?_
   have htk : h2.take (H.length + 1) = h2 := Q1 (by omega)
   have hlt := q1.lt
   rw [q2] at hlt
   simp [hlt, ag, htk, q2, hle]
   exact fun i hi hil => by
    rcases hi with h | h | h | h
    ·have := (kf i h).1; omega
    ·have := ke i h; omega
    ·exact h
    ·omega
  ·rw [q3 k (fun hq => by have := (kf k hq).1; omega) (fun hq => by have := ke k hq; omega) hk2, Q2 (by omega)]
   exact hHg k hk
  ·refine aA ?_ fun x hx c hc => by rw [Q9.1 hx] at hc; exact cx _ c hc
   rw [hH]
   refine aA (aA hp fun x hx c hc => ?_) hrd.plain
   simp at hx
   rcases hx with rfl | rfl
   ·exact na j c hc
   ·simp [aR] at hc; rcases hc with rfl | rfl <;> rfl
  ·rw [q5] at hx; exact .inl hx
theorem og : (∀ m ∈ [uM], gr m /\ sf m /\ (bM m).length <= 140737488351232) /\ (∀ m ∈ [uM], gr m /\ ki m /\ sf m /\ (bM m).length <= 10000000) /\ (cT [uM]).length <= 1000 := by
 have e1 : bM uM = [] := by decide +kernel
 have e2 : cT [uM] = [51, 0, 0, 0, 4] := by decide +kernel
 have hf : gr uM := by unfold gr uM; simp
 have ho : sf uM := by unfold sf uM; simp
 have hs : ki uM := by unfold ki uM; simp
 refine ⟨fun m hm => ?_, fun m hm => ?_, by rw [e2]; simp⟩
 ·rw [Q9.1 hm, e1]; exact ⟨hf, ho, by simp⟩
 ·rw [Q9.1 hm, e1]; exact ⟨hf, hs, ho, by simp⟩
theorem Ba (hi : j.i < h.length) (hi2 : j.it < h.length) : Contract Tryz.prog 30 [.agg (cq j)] h (.tup [.sl 10 [] none .no, .sl 8 (ai aK [ly j.m]) none .no]) h [] := by
 refine ab QX mixed (by simp [MH]) fun hh hargs => ?_
 simp [MH]
 refine aj (zi [uM] og.1 (by have := og.2.2; omega) (by simp) _) (by simp [bW, uM]) (by simp) ?_
 simp
 refine aa (by simp) (iN j.m.name _) ?_
 simp [hh, aW, ly]
 done
theorem AU (hi : j.i < h.length) (hi2 : j.it < h.length) : Contract Tryz.prog 31 [.agg (cq j)] h (.tup [.sl 10 (ai aG [j.m]) none .no, .sl 8 (ai aK (lX j.m)) none .no]) h [] := by
 refine ab Qy mixed (by simp [Nk]) fun hh hargs => ?_
 simp [Nk]
 refine aa (by simp) (zh j.m _) ?_
 by_cases h1 : j.m.kind = 72
 ·simp [h1, hh, lX]
  done
 by_cases h2 : j.m.kind = 81
 ·simp [h2]
  refine aa (by simp) (iN [] _) ?_
  simp [hh, lX, h2, aW, cN]
  done
 ·simp [h1, h2, hh, lX, aW]
  done
end
theorem Contract.wrMore {P : Program} {f : FuncId} {args : List AV} {h h' : List (List AV)} {r : AV} (hc : Contract P f args h r h' []) (wr : List Nat) : Contract P f args h r h' wr :=
 ⟨hc.1, fun G w vs cls h1 h2 h3 h4 h5 => (hc.2 G w vs cls h1 h2 h3 h4 h5).mono fun e w' ⟨v, G', cls', he, ha⟩ => ⟨v, G', cls', he, { ha with boxes := fun i hi _ => ha.boxes i hi (by simp) }⟩⟩
section
variable {h : List (List AV)} {lo lo2 i it : Nat} {R : Rg} {T : Tb}
set_option maxHeartbeats 4000000 in
theorem zb (hr : RegAt lo h i R) {n : Nat} (ho : RgOk n R) (hn : n + 10 <= 1000) (ht : TbAt lo2 h it T) (l : List En) (hl : l.length <= 1000000) (hg : ∀ x ∈ l, x.good.length <= 1000000) (spec : List Int) (hsp : spec.length <= 1000000) (most : Int) (m : Fm) (hm : FmSh m)
  {o : Option Int} (hoo : dj m.name (T.get m.name) (opsOf l) = o) :
  At 8 [.box i 0, .box it 0, .sl 8 (ai aK l) none .no, .sl 1 (ai ao spec) none .no, .v (.int .i64 most), .agg (aG m)] lo h i R (cG spec most R o m).1 (cG spec most R o m).2 (jf spec most R o m (h.length + 5)) := by
 have hi := hr.i_lt
 have hi2 := ht.i_lt
 cases hne : ey m with
 | false =>
  have e1 : cG spec most R o m = ([], []) := if_pos hne
  have e2 : jf spec most R o m (h.length + 5) = R := if_pos hne
  rw [e1, e2]
  refine ⟨h, ?_, hr, Q5 _, fun _ _ _ => rfl, fun h => h, fun x hx => .inl hx⟩
  refine ab k8 mixed (by simp [c8]) fun hh hargs => ?_
  simp [c8]
  refine aa (by simp) (sy m _) ?_
  simp [hne, hh]
  done
 | true =>
 have hne2 : ¬ ey m = false := by simp [hne]
 obtain ⟨j, hj⟩ : ∃ j : Jb, j = ⟨m, i, it, l, spec, most⟩ := ⟨_, rfl⟩
 have hjm : j.m = m := by rw [hj]
 have hji : j.i = i := by rw [hj]
 have hjt : j.it = it := by rw [hj]
 have hjl : j.l = l := by rw [hj]
 have hjs : j.spec = spec := by rw [hj]
 have hjo : j.most = most := by rw [hj]
 have hjc : cq j = [.v (.int .u8 m.kind), .v (.int .u8 m.what), .v (.string (ah m.name)), .v (.string (ah m.portal)), .v (.string (ah m.text)), .sl 1 (ai ao m.oids) none .no, .sl 1 (ai ao m.formats) none .no, .sl 1 (ai ao m.results) none .no, .sl 2 (ai aC m.params) none .no, .v (.int .i64 m.max), .box i 0, .box it 0, .sl 8 (ai aK l) none .no, .sl 1 (ai ao spec) none .no, .v (.int .i64 most)] := by rw [hj]; rfl
 have hlt1 : i < h.length + 2 := by omega
 have hlt2 : it < h.length + 2 := by omega
 have hJ2 : aw (h.length + 2) [aG m, cq j] := by simp [iT (j := j) (n := h.length + 2) (by omega) (by omega)]
 have hr2 := hr.app [aG m, cq j] (by simpa using hJ2)
 have ht2 := ht.app [aG m, cq j] (by simpa using hJ2)
 have hle2 : (h ++ [aG m, cq j]).length = h.length + 2 := by simp
 have hpl : aQ h -> aQ (h ++ [aG m, cq j]) := fun hp => aA hp fun x hx c hc => by
  simp at hx
  rcases hx with rfl | rfl
  ·exact dT m c hc
  ·exact na j c hc
 have hgt : ∀ k < h.length, (h ++ [aG m, cq j])[k]? = h[k]? := fun k hk => Q2 hk
 have hge : ∀ {h' : List (List AV)}, (∀ k < (h ++ [aG m, cq j]).length, k ∉ R.touch i -> h'[k]? = (h ++ [aG m, cq j])[k]?) -> ∀ k < h.length, k ∉ R.touch i -> h'[k]? = h[k]? := fun hk k hk1 hk2 => by rw [hk k (by omega) hk2]; exact hgt k hk1
 have hT : (∀ a, a ∈ R.touch i -> a < h.length -> a ∈ R.touch i) = True := eq_true fun _ h _ => h
 have walk : ∀ {h' : List (List AV)} {F : List Fm} {E : List En}, h.length <= h'.length -> aw h'.length h' ->
   (m.kind = 80 -> Contract Tryz.prog 28 [.agg (cq j)] (h ++ [aG m, cq j]) (.tup [.sl 10 (ai aG F) none .no, .sl 8 (ai aK E) none .no]) h' (R.touch i)) ->
   (¬ m.kind = 80 -> eC m -> Contract Tryz.prog 29 [.agg (cq j)] (h ++ [aG m, cq j]) (.tup [.sl 10 (ai aG F) none .no, .sl 8 (ai aK E) none .no]) h' (R.touch i)) ->
   (¬ m.kind = 80 -> ¬ eC m -> m.kind = 67 /\ m.what = 83 -> Contract Tryz.prog 30 [.agg (cq j)] (h ++ [aG m, cq j]) (.tup [.sl 10 (ai aG F) none .no, .sl 8 (ai aK E) none .no]) h' (R.touch i)) ->
   (¬ m.kind = 80 -> ¬ eC m -> ¬ (m.kind = 67 /\ m.what = 83) -> Contract Tryz.prog 31 [.agg (cq j)] (h ++ [aG m, cq j]) (.tup [.sl 10 (ai aG F) none .no, .sl 8 (ai aK E) none .no]) h' (R.touch i)) ->
   Contract Tryz.prog 8 [.box i 0, .box it 0, .sl 8 (ai aK l) none .no, .sl 1 (ai ao spec) none .no, .v (.int .i64 most), .agg (aG m)] h (.tup [.sl 10 (ai aG F) none .no, .sl 8 (ai aK E) none .no]) h' (R.touch i) := fun {h' F E} hlen hlt c1 c2 c3 c4 => by
  refine aF (XCode.cuts [false, false, true] c8.code) k8 rfl mixed (by simp [c8]) fun hh hargs => ?_
  have hh2 := al (Q3 h.length 2) hh
  have htk : h'.take h'.length = h' := Q1 (Q5 _)
  simp [c8]
  refine aa (by simp) (sy m _) ?_
  simp [hne]
  refine aU ⟨[(11, .box h.length 0), (14, .box (h.length + 1) 0)], [], h ++ [aG m, cq j], []⟩ ?_ ?_
  ·simp
   refine aa (by simp) (Ao m hm _) ?_
   simp [fy, hjc, Leq, hh2, hlt1, hlt2, ag]
   done
  have bt : ∀ {x : Int} (c : Int), x = c -> (x == c) = true := fun c h => by simpa using h
  have bf : ∀ {x : Int} (c : Int), ¬ x = c -> (x == c) = false := fun c h => by simpa using h
  by_cases k1 : m.kind = 80
  ·have b1 := bt 80 k1
   simp [b1]
   refine aa (by simp) (c1 k1) ?_
   simp [htk, hlt, ag, hT, hlen]
   done
  have b1 := bf 80 k1
  by_cases k2 : m.kind = 66
  ·have b2 := bt 66 k2
   simp [b1, b2]
   refine aa (by simp) (c2 k1 (.inl k2)) ?_
   simp [htk, hlt, ag, hT, hlen]
   done
  have b2 := bf 66 k2
  by_cases w : m.what = 83
  ·have bw := bt 83 w
   by_cases k3 : m.kind = 68
   ·have b3 := bt 68 k3
    simp [b1, b2, b3, bw]
    refine aa (by simp) (c2 k1 (.inr ⟨k3, w⟩)) ?_
    simp [htk, hlt, ag, hT, hlen]
    done
   have b3 := bf 68 k3
   have hnu : ¬ eC m := fun h => by rcases h with h | h; exact k2 h; exact k3 h.1
   by_cases k4 : m.kind = 67
   ·have b4 := bt 67 k4
    simp [b1, b2, b3, b4, bw]
    refine aa (by simp) (c3 k1 hnu ⟨k4, w⟩) ?_
    simp [htk, hlt, ag, hT, hlen]
    done
   have b4 := bf 67 k4
   simp [b1, b2, b3, b4, bw]
   refine aa (by simp) (c4 k1 hnu fun h => k4 h.1) ?_
   simp [htk, hlt, ag, hT, hlen]
   done
  have bw := bf 83 w
  have hnu : ¬ eC m := fun h => by rcases h with h | h; exact k2 h; exact w h.2
  have hnc : ¬ (m.kind = 67 /\ m.what = 83) := fun h => w h.2
  by_cases k3 : m.kind = 68
  ·have b3 := bt 68 k3
   have b4 : (m.kind == 67) = false := by rw [k3]; rfl
   simp [b1, b2, b3, b4, bw]
   refine aa (by simp) (c4 k1 hnu hnc) ?_
   simp [htk, hlt, ag, hT, hlen]
   done
  have b3 := bf 68 k3
  by_cases k4 : m.kind = 67
  ·have b4 := bt 67 k4
   simp [b1, b2, b3, b4, bw]
   refine aa (by simp) (c4 k1 hnu hnc) ?_
   simp [htk, hlt, ag, hT, hlen]
   done
  have b4 := bf 67 k4
  simp [b1, b2, b3, b4, bw]
  refine aa (by simp) (c4 k1 hnu hnc) ?_
  simp [htk, hlt, ag, hT, hlen]
  done
 have hooj : dj j.m.name (T.get j.m.name) (opsOf j.l) = o := by rw [hjm, hjl]; exact hoo
 unfold cG jf
 rw [if_neg hne2, if_neg hne2]
 by_cases k1 : m.kind = 80
 ·rw [if_pos k1, if_pos k1]
  obtain ⟨h', ct, p1, p2, p3, p4, p5⟩ := y4 (j := j) (by rw [hji]; exact hr2) ho hn (by rw [hjt]; exact ht2) (by rw [hjl]; exact hl) (by rw [hjl]; exact hg) (by rw [hjm]; exact hm) (by rw [hjs]; exact hsp) hooj
  simp only [hle2, hjm, hjs, hjo, hji] at ct p1 p2 p3 p5
  refine ⟨h', walk (by omega) p1.lt (fun _ => ct) (fun h _ => absurd k1 h) (fun h _ _ => absurd k1 h) (fun h _ _ => absurd k1 h), p1, by omega, hge (by rw [hle2]; exact p3), fun hp => p4 (hpl hp), fun x hx => ?_⟩
  rcases p5 x hx with h | h
  ·exact .inl h
  ·exact .inr (by omega)
 rw [if_neg k1, if_neg k1]
 by_cases ku : eC m
 ·rw [if_pos ku, if_pos ku]
  obtain ⟨h', ct, p1, p2, p3, p4, p5⟩ := FT (j := j) (by rw [hji]; exact hr2) ho hn (by rw [hjt]; exact ht2) (by rw [hjl]; exact hl) (by rw [hjl]; exact hg) (by rw [hjs]; exact hsp) hooj
  simp only [hle2, hjm, hjs, hjo, hji] at ct p1 p2 p3 p5
  refine ⟨h', walk (by omega) p1.lt (fun h => absurd h k1) (fun _ _ => ct) (fun _ h _ => absurd ku h) (fun _ h _ => absurd ku h), p1, by omega, hge (by rw [hle2]; exact p3), fun hp => p4 (hpl hp), fun x hx => ?_⟩
  rcases p5 x hx with h | h
  ·exact .inl h
  ·exact .inr (by omega)
 rw [if_neg ku, if_neg ku]
 by_cases kc : m.kind = 67 /\ m.what = 83
 ·rw [if_pos kc]
  have ct := (Ba (j := j) (h := h ++ [aG m, cq j]) (by rw [hji, hle2]; omega) (by rw [hjt, hle2]; omega)).wrMore (R.touch i)
  rw [hjm] at ct
  exact ⟨_, walk (by omega) hr2.lt (fun h => absurd h k1) (fun _ h => absurd h ku) (fun _ _ _ => ct) (fun _ _ h => absurd kc h), hr2, by omega, fun k hk _ => hgt k hk, hpl, fun x hx => .inl hx⟩
 rw [if_neg kc]
 have ct := (AU (j := j) (h := h ++ [aG m, cq j]) (by rw [hji, hle2]; omega) (by rw [hjt, hle2]; omega)).wrMore (R.touch i)
 rw [hjm] at ct
 exact ⟨_, walk (by omega) hr2.lt (fun h => absurd h k1) (fun _ h => absurd h ku) (fun _ _ h => absurd h kc) (fun _ _ _ => ct), hr2, by omega, fun k hk _ => hgt k hk, hpl, fun x hx => .inl hx⟩
end
theorem RgOk.len0 {n : Nat} {R : Rg} (ho : RgOk n R) : R.l.length <= n := by
 have key : ∀ (l : List Nat) (k n : Nat), l.Pairwise (· < ·) -> (∀ x ∈ l, k < x /\ x <= n) -> l.length <= n - k := fun l => by
  induction l with
  | nil => intro _ _ _ _; simp
  | cons y r ih =>
   intro k n hl hk
   have h1 := hk y (List.mem_cons_self ..)
   have h2 := ih y n (Rh.1 hl).2 fun z hz => ⟨(Rh.1 hl).1 z hz, (hk z (List.mem_cons_of_mem _ hz)).2⟩
   rw [List.length_cons]; omega
 have := key (R.l.map Sl.id) 0 n ho.rise (fun x hx => by obtain ⟨s, hs, rfl⟩ := Rj.1 hx; have := ho.ids s hs; have := ho.last; omega)
 simpa using this
structure FO where
 H : List (List AV)
 R : Rg
 T : Tb
 L : List Nm
 b : Nat
 c : Nat
structure FO.Ok (B n : Nat) (d : FO) : Prop where
 reg : RegAt B d.H (B + 2) d.R
 ok : RgOk n d.R
 x : XAt B d.H (B + 3) d.b d.R
 tb : TbAt B d.H (B + 5) d.T
 ta : d.T.a = B + 4
 tm : d.T.most = 40
 nl : NlAt B d.H (B + 6) d.c 40 d.L
 both : Both d.T d.L
 tch : ∀ k ∈ d.R.touch (B + 2), (B <= k /\ k < B + 3) \/ B + 7 <= k
 bs : d.R.l ≠ [] -> B + 7 <= d.b /\ d.b ∉ d.R.touch (B + 2)
 cs : d.L ≠ [] -> B + 7 <= d.c /\ d.c ∉ d.R.touch (B + 2) /\ (d.R.l ≠ [] -> d.c ≠ d.b)
 len : B + 7 <= d.H.length
section
variable {B n : Nat} {d : FO}
theorem FO.Ok.lt (hd : d.Ok B n) : aw d.H.length d.H := hd.reg.lt
theorem FO.Ok.app (hd : d.Ok B n) (xs : List (List AV)) (hx : aw (d.H.length + xs.length) xs) : ({ d with H := d.H ++ xs } : FO).Ok B n :=
 ⟨hd.reg.app xs hx, hd.ok, hd.x.app xs hx, hd.tb.app xs hx, hd.ta, hd.tm, hd.nl.app xs hx, hd.both, hd.tch, hd.bs, hd.cs, by show B + 7 <= (d.H ++ xs).length; rw [Q6]; have := hd.len; omega⟩
theorem FO.Ok.mono (hd : d.Ok B n) {n' : Nat} (hn : n <= n') : d.Ok B n' := ⟨hd.reg, hd.ok.mono hn, hd.x, hd.tb, hd.ta, hd.tm, hd.nl, hd.both, hd.tch, hd.bs, hd.cs, hd.len⟩
theorem FO.Ok.four (hd : d.Ok B n) : B + 3 ∉ d.R.touch (B + 2) /\ B + 4 ∉ d.R.touch (B + 2) /\ B + 5 ∉ d.R.touch (B + 2) /\ B + 6 ∉ d.R.touch (B + 2) := by
 refine ⟨?_, ?_, ?_, ?_⟩ <;> (intro h; have := hd.tch _ h; omega)
structure Step2 (B n : Nat) (d d' : FO) (f fx : FuncId) (a ax : List AV) (r rx : AV) : Prop where
 ex : ∃ H1 b1, Contract Tryz.prog f a d.H r H1 (d.R.touch (B + 2)) /\ Contract Tryz.prog fx ax H1 rx d'.H [B + 3, b1] /\ d.H.length <= H1.length /\ aw H1.length H1 /\ H1.length <= d'.H.length /\ B + 7 <= b1 /\
  (∀ k < d.H.length, k ∉ d.R.touch (B + 2) -> H1[k]? = d.H[k]?) /\ (∀ k < d.H.length, k ∉ d.R.touch (B + 2) -> k ≠ B + 3 -> (d.R.l ≠ [] -> k ≠ d.b) -> d'.H[k]? = d.H[k]?)
 ok : d'.Ok B n
 t : d'.T = d.T /\ d'.L = d.L
theorem FO.Ok.step (hd : d.Ok B n) {f fx : FuncId} {a ax : List AV} {r rx : AV} {R' : Rg} {n' : Nat} (hn : RgOk n' R')
  (h1 : ∃ h', Contract Tryz.prog f a d.H r h' (d.R.touch (B + 2)) /\ RegAt B h' (B + 2) R' /\ d.H.length <= h'.length /\ ∀ k < d.H.length, k ∉ d.R.touch (B + 2) -> h'[k]? = d.H[k]?)
  (ht : ∀ x ∈ R'.touch (B + 2), x ∈ d.R.touch (B + 2) \/ d.H.length <= x)
  (h2 : ∀ H1 b1, XAt B H1 (B + 3) b1 d.R -> NlAt B H1 (B + 6) d.c 40 d.L -> aw H1.length H1 -> ∃ h' b', Contract Tryz.prog fx ax H1 rx h' [B + 3, b1] /\ XAt B h' (B + 3) b' R' /\ (b' = b1 \/ H1.length <= b') /\ H1.length <= h'.length /\ ∀ k < H1.length, k ≠ B + 3 -> k ≠ b1 -> h'[k]? = H1[k]?) :
  ∃ d', Step2 B n' d d' f fx a ax r rx /\ d'.R = R' := by
 obtain ⟨H1, ct1, hR1, hl1, hk1⟩ := h1
 obtain ⟨f3, f4, f5, f6⟩ := hd.four
 have hlen := hd.len
 have hX1 : ∃ b1, XAt B H1 (B + 3) b1 d.R /\ B + 7 <= b1 /\ b1 ∉ R'.touch (B + 2) /\ (d.L ≠ [] -> d.c ≠ b1) /\ (d.R.l ≠ [] -> b1 = d.b) /\ (d.R.l = [] -> b1 = H1.length) := by
  by_cases hL : d.R.l = []
  ·refine ⟨H1.length, ⟨?_, fun e => absurd hL e, ⟨by omega, by omega⟩, by omega, hR1.lt⟩, by omega, fun hh => by have := hR1.touch_lt0 _ hh; omega, fun hne => ?_, fun e => absurd hL e, fun _ => rfl⟩
   ·rw [hk1 (B + 3) (by omega) f3, hd.x.top]
    unfold fD; rw [if_pos hL, if_pos hL]
   ·have := (Q0.1 (hd.nl.list hne)).1; omega
  ·obtain ⟨b7, bt⟩ := hd.bs hL
   have hbl := (Q0.1 (hd.x.list hL)).1
   refine ⟨d.b, hd.x.move (hk1 _ (by omega) f3) (fun _ => hk1 _ hbl bt) hR1.lt, b7, fun hh => ?_, fun hne => (hd.cs hne).2.2 hL, fun _ => rfl, fun e => absurd e hL⟩
   rcases ht _ hh with h | h
   ·exact bt h
   ·omega
 obtain ⟨b1, hX1, hb7, hbt, hcb, hbe, hbn⟩ := hX1
 have hnl1 : NlAt B H1 (B + 6) d.c 40 d.L := hd.nl.move (hk1 _ (by omega) f6) (fun hne => hk1 _ (Q0.1 (hd.nl.list hne)).1 (hd.cs hne).2.1) hR1.lt
 obtain ⟨H2, b2, ct2, hX2, hb2, hl2, hk2⟩ := h2 H1 b1 hX1 hnl1 hR1.lt
 have tl := hR1.touch_lt0
 have tch' : ∀ k ∈ R'.touch (B + 2), (B <= k /\ k < B + 3) \/ B + 7 <= k := fun k hk => by
  rcases ht k hk with h | h
  ·exact hd.tch k h
  ·omega
 have keep : ∀ k < d.H.length, k ∉ d.R.touch (B + 2) -> k ≠ B + 3 -> k ≠ b1 -> H2[k]? = d.H[k]? := fun k h1 h2 h3 h4 => by rw [hk2 k (by omega) h3 h4, hk1 k h1 h2]
 have b2t : b2 ∉ R'.touch (B + 2) := fun hh => by
  rcases hb2 with e | e
  ·exact hbt (by rw [<- e]; exact hh)
  ·have := tl _ hh; omega
 refine ⟨⟨H2, R', d.T, d.L, b2, d.c⟩, ⟨⟨H1, b1, ct1, ct2, hl1, hR1.lt, hl2, hb7, hk1, fun k h1 h2 h3 h4 => ?_⟩, ⟨?_, hn, hX2, ?_, hd.ta, hd.tm, ?_, hd.both, tch', fun _ => ⟨by show B + 7 <= b2; rcases hb2 with e | e <;> omega, b2t⟩, fun hne => ⟨(hd.cs hne).1, fun hh => ?_, fun _ => ?_⟩, by show B + 7 <= H2.length; omega⟩, rfl, rfl⟩, rfl⟩
 ·refine keep k h1 h2 h3 fun e => ?_
  by_cases hL : d.R.l = []
  ·have := hbn hL; omega
  ·exact h4 hL (by rw [e]; exact hbe hL)
 ·refine hR1.keep0 (fun k hk => hk2 k (tl k hk) (fun e => ?_) (fun e => hbt (by rw [<- e]; exact hk))) hX2.lt
  have := tch' k hk; omega
 ·refine hd.tb.move (keep _ (by omega) f5 (by omega) (by omega)) ?_ hX2.lt
  rw [hd.ta]
  exact keep _ (by omega) f4 (by omega) (by omega)
 ·exact hd.nl.move (keep _ (by omega) f6 (by omega) (by omega)) (fun hne => keep _ (Q0.1 (hd.nl.list hne)).1 (hd.cs hne).2.1 (by have := (hd.cs hne).1; omega) (hcb hne)) hX2.lt
 ·have hcl := (Q0.1 (hd.nl.list hne)).1
  rcases ht _ hh with h | h
  ·exact (hd.cs hne).2.1 h
  ·have h : d.H.length <= d.c := h
   omega
 ·have hcl := (Q0.1 (hd.nl.list hne)).1
  show d.c ≠ b2
  rcases hb2 with e | e
  ·rw [e]; exact hcb hne
  ·omega
structure StepT (B n : Nat) (d d' : FO) (k : List UInt8) (v : Int) : Prop where
 ex : ∃ H1 c1 r1 r2, Contract Tryz.prog 23 [.box (B + 5) 0, .v (.string (ah k)), .v (.int .i64 v)] d.H r1 H1 [B + 4] /\ Contract Tryz.prog 24 [.box (B + 6) 0, .v (.string (ah k)), .v (.int .i64 v)] H1 r2 d'.H [B + 6, c1] /\ H1.length = d.H.length /\ aw H1.length H1 /\ H1.length <= d'.H.length /\ B + 7 <= c1 /\
  (∀ k < d.H.length, k ≠ B + 4 -> H1[k]? = d.H[k]?) /\ (∀ k < d.H.length, k ≠ B + 4 -> k ≠ B + 6 -> (d.L ≠ [] -> k ≠ d.c) -> d'.H[k]? = d.H[k]?) /\ r1.idOf = none /\ r2.idOf = none
 ok : d'.Ok B n
theorem FO.Ok.stepT (hd : d.Ok B n) (k : List UInt8) (hk : k.length <= 281474976710656) (v : Int) : ∃ d', StepT B n d d' k v := by
 obtain ⟨f3, f4, f5, f6⟩ := hd.four
 have hlen := hd.len
 have ct1 := Fg hd.tb hd.both.ok k hk v
 have tB := hd.tb.to (T' := d.T.set k v) (Tb.set_a _ _ _) (Tb.set_most _ _ _)
 obtain ⟨H1, hH1⟩ : ∃ H1, H1 = d.H.set d.T.a (d.T.set k v).cells := ⟨_, rfl⟩
 rw [<- hH1] at ct1 tB
 have hl1 : H1.length = d.H.length := by rw [hH1, Q8]
 have hk1 : ∀ q, q ≠ B + 4 -> H1[q]? = d.H[q]? := fun q hq => by rw [hH1, Q4 (by rw [hd.ta]; omega)]
 rw [hd.ta] at ct1
 have hN1 : ∃ c1, NlAt B H1 (B + 6) c1 d.T.most d.L /\ B + 7 <= c1 /\ c1 ∉ d.R.touch (B + 2) /\ (d.R.l ≠ [] -> d.b ≠ c1) /\ (d.L ≠ [] -> c1 = d.c) /\ (d.L = [] -> c1 = H1.length) := by
  rw [hd.tm]
  by_cases hL : d.L = []
  ·refine ⟨H1.length, ⟨?_, fun e => absurd hL e, ⟨by omega, by omega⟩, by omega, tB.lt⟩, by omega, fun hh => by have := hd.reg.touch_lt0 _ hh; omega, fun hne => ?_, fun e => absurd hL e, fun _ => rfl⟩
   ·rw [hk1 _ (by omega), hd.nl.top, hL]; rfl
   ·have := (Q0.1 (hd.x.list hne)).1; omega
  ·obtain ⟨c7, ctt, cbn⟩ := hd.cs hL
   exact ⟨d.c, hd.nl.move (hk1 _ (by omega)) (fun _ => hk1 _ (by omega)) tB.lt, c7, ctt, fun hne => (cbn hne).symm, fun _ => rfl, fun e => absurd e hL⟩
 obtain ⟨c1, hN1, hc7, hct, hbc, hce, hcn⟩ := hN1
 have hfew := hd.both.few
 obtain ⟨H2, c2, ct2, hN2, hc2, hl2, hk2, _⟩ := Bs hN1 hd.both.rise (by omega) k v
 have keep : ∀ q < d.H.length, q ≠ B + 4 -> q ≠ B + 6 -> q ≠ c1 -> H2[q]? = d.H[q]? := fun q h1 h2 h3 h4 => by rw [hk2 q (by omega) h3 h4, hk1 q h2]
 have tl := hd.reg.touch_lt0
 have hset := hd.both.set k v
 refine ⟨⟨H2, d.R, d.T.set k v, Nm.set d.T.most k v d.L, d.b, c2⟩, ⟨H1, c1, _, _, ct1, ct2, hl1, by rw [hl1, <- hl1]; exact tB.lt, hl2, hc7, fun q _ h => hk1 q h, fun q h1 h2 h3 h4 => keep q h1 h2 h3 fun e => ?_, rfl, rfl⟩, ⟨?_, hd.ok, ?_, ?_, ?_, ?_, ?_, hset, hd.tch, hd.bs, fun hne => ⟨by show B + 7 <= c2; rcases hc2 with e | e <;> omega, fun hh => ?_, fun hne2 => ?_⟩, by show B + 7 <= H2.length; omega⟩⟩
 ·by_cases hL : d.L = []
  ·have := hcn hL; omega
  ·exact h4 hL (by rw [e]; exact hce hL)
 ·refine hd.reg.keep0 (fun q hq => keep q (tl q hq) (fun e => f4 (by rw [<- e]; exact hq)) (fun e => f6 (by rw [<- e]; exact hq)) fun e => hct (by rw [<- e]; exact hq)) hN2.lt
 ·exact hd.x.move (keep _ (by omega) (by omega) (by omega) (by omega)) (fun hne => keep _ (Q0.1 (hd.x.list hne)).1 (by have := (hd.bs hne).1; omega) (by have := (hd.bs hne).1; omega) (hbc hne)) hN2.lt
 ·refine tB.move (hk2 _ (by omega) (by omega) (by omega)) ?_ hN2.lt
  rw [Tb.set_a, hd.ta]
  exact hk2 _ (by omega) (by omega) (by omega)
 ·show (d.T.set k v).a = _; rw [Tb.set_a]; exact hd.ta
 ·show (d.T.set k v).most = _; rw [Tb.set_most]; exact hd.tm
 ·have := hN2; rw [hd.tm] at this; show NlAt B H2 (B + 6) c2 40 (Nm.set d.T.most k v d.L); rw [hd.tm]; exact this
 ·have hh : c2 ∈ d.R.touch (B + 2) := hh
  rcases hc2 with e | e
  ·exact hct (by rw [<- e]; exact hh)
  ·have := tl _ hh; omega
 ·show c2 ≠ d.b
  have hbl := (Q0.1 (hd.x.list hne2)).1
  rcases hc2 with e | e
  ·rw [e]; exact (hbc hne2).symm
  ·omega
end
def XCode.cutsN : List Nat -> XCode -> XCode
 | 0 :: r, .seq a b => .seq a (XCode.cutsN r b)
 | 1 :: r, .seq a b => .mark (.seq a (.cut (XCode.cutsN r b)))
 | _ :: r, .seq a b => .mark (.seq a (.cut (.cut (XCode.cutsN r b))))
 | _, c => c
attribute [simp] XCode.cutsN
theorem rh {P : Program} {m : Frm} {a b : XCode} {s : St} {K : XExit -> St -> Prop} (i : Nat) (cs : List AV) (s1 : St) (i2 : Nat) (cs2 : List AV) (s2 : St) (hi : m.h.length <= i) (hne : frzOk cs) (hi2 : m.h.length <= i2) (hne2 : frzOk cs2) (hc2 : s1.heap[i2]? = some cs2) (h2 : Leq m.h.length (s1.frz i2 cs2) s2)
  (ha : dU P m a s (XExit.then (fun s' => s'.heap[i]? = some cs /\ Leq m.h.length (s'.frz i cs) s1) K)) (hb : dU P m b s2 K) : dU P m (.mark (.seq a (.cut (.cut b)))) s K :=
 df (c := a) (gV (fun _ h => ⟨s1, .inr ⟨i, cs, hi, h.1, hne, h.2⟩, s2, .inr ⟨i2, cs2, hi2, hc2, hne2, h2⟩, hb⟩) fun _ _ h => h) ha
theorem lp (R : Rg) (a b : List Oc) : kp R (a ++ b) = kp (kp R a) b := List.foldl_append
theorem ew (a b : List En) : aE (a ++ b) = aE a ++ aE b := List.flatMap_append
theorem wL (spec : List Int) (most : Int) (R : Rg) : kp R (aE (roomE spec most)) = R := by
 unfold roomE; split <;> rfl
theorem Hj (spec : List Int) (most : Int) (R : Rg) (m : Fm) (id : Int) : kp R (aE (roomE spec most ++ [dK m id ⟨1, id⟩])) = R.ref id := by
 rw [ew, lp, wL]; rfl
theorem FK (spec : List Int) (most : Int) (R : Rg) (m : Fm) (id : Int) : kp R (aE (aI spec most id ++ [gq m id])) = if spec.contains id = true then R else R.ref id := by
 rw [ew, lp]
 unfold aI
 split
 ·rfl
 ·rw [ew, lp, wL]; rfl
def Lo (k id : Int) : AV := .sl 2 [[.v (.int .i64 k), .v (.int .i64 id)]] (some false) .exact
theorem AY (m : Fm) (k id : Int) : cV (Rk 8 (Rk 8 ((aK (ic m id)).set 6 (Lo k id)))) (aK (dK m id ⟨k, id⟩)) := by
 rw [cv, ry]
 simp [cV, weak, cF, Lo, jg]
theorem De (m : Fm) (k id : Int) (i : Nat) : dC i 0 ((aK (ic m id)).set 6 (Lo k id)) (aK (dK m id ⟨k, id⟩)) := by
 rw [cv, ry]
 simp [dC, LeqV, Lo, jg]
section
variable {h : List (List AV)} {lo i b : Nat} {R : Rg}
theorem XAt.norm (hr : XAt lo h i b R) {k : Nat} (hk : h.length <= k) : ∃ b0, XAt lo h i b0 R /\ (b0 = b \/ b0 = k) /\ (b0 < h.length \/ b0 = k) := by
 have hi := (Q0.1 hr.top).1
 have hl := hr.low
 by_cases hL : R.l = []
 ·refine ⟨k, ⟨?_, fun e => absurd hL e, ⟨hl.1, by omega⟩, by omega, hr.lt⟩, .inr rfl, .inr rfl⟩
  rw [hr.top]
  unfold fD; rw [if_pos hL, if_pos hL]
 ·exact ⟨b, hr, .inl rfl, .inl (Q0.1 (hr.list hL)).1⟩
set_option maxHeartbeats 4000000 in
theorem Ab (hr : XAt lo h i b R) {n : Nat} (ho : RgOk n R) (hn : n + 10 <= 1000) (spec : List Int) (hsp : spec.length <= 1000000) (most : Int) (m : Fm) (hm : FmSh m) (hk : m.kind = 80) (o : Option Int) (nb : Nat) :
  uO 33 [.box i 0, .v (.bool o.isSome), .sl 1 (ai ao spec) none .no, .v (.int .i64 most), .agg (aG m)] lo h i b R (.tup [.sl 10 (ai aG (dm spec most R o m).1) none .no, .sl 8 (ai aK (dm spec most R o m).2) none .no]) (kp (gd R o m nb) (aE (dm spec most R o m).2)) := by
 have hi := (Q0.1 hr.top).1
 have hset0 : ∀ nm : List UInt8, (aG m).set 2 (.v (.string (ah nm))) = aG (named m nm) := fun _ => rfl
 have hlen := ho.len0
 have hi1 : i < h.length + 1 := by omega
 by_cases hA : o.isSome = true /\ m.name ≠ []
 ·have e1 : dm spec most R o m = ([named m dupN], [dc m dupN]) := if_pos hA
  have e2 : gd R o m nb = R := if_pos hA
  rw [e1, e2]
  refine ⟨h, b, ?_, hr, .inl rfl, Q5 _, fun _ _ _ _ => rfl, fun h => h⟩
  refine ab K2 mixed (by simp [c33]) fun hh hargs => ?_
  obtain ⟨x, rfl⟩ := Rd.1 hA.1
  have hne := hA.2
  simp [c33, hne, hh, hset0, aW, dc, dupN, cN, hk]
  done
 ·have e0 : gd R o m nb = R.put (cf m) nb := if_neg hA
  rw [e0]
  obtain ⟨b0, hx0, hb0, hb0l⟩ := hr.norm (k := h.length + 1) (by omega)
  obtain ⟨h1, b1, ct1, hx1, hb1, hl1, hk1, hp1⟩ := zu (hx0.app [aG m] (by simp)) ho (by omega) (by omega) (cf m) (by have := hm.oids; show m.oids.length <= _; omega) nb
  rw [Q6, Q7] at hb1 hl1 hk1
  have hj1 : h1[h.length]? = some (aG m) := by rw [hk1 _ (by omega) (by omega) (by omega)]; simp
  have hks : ∀ k < h.length, k ≠ i -> k ≠ b -> h1[k]? = h[k]? := fun k hk n1 n2 => by rw [hk1 k (by omega) n1 (by omega)]; exact Q2 hk
  have hps : aQ h -> aQ h1 := fun hp => hp1 (aA hp fun x hx c hc => by rw [Q9.1 hx] at hc; exact dT m c hc)
  have ho1 := ho.put (cf m) ⟨by have := hm.text; show m.text.length <= _; omega, by have := hm.oids; show m.oids.length <= _; omega⟩ nb
  have e1 : ∀ p, (if o.isSome = true /\ m.name ≠ [] then ([named m dupN], [dc m dupN]) else p) = p := fun p => if_neg hA
  have hb0w : b0 < h.length -> b0 = b := fun h => by omega
  have hb1b : b1 = b \/ h.length <= b1 := by omega
  have hb1n : b1 ≠ h.length := by omega
  unfold dm
  rw [e1]
  have htk : h1.take h1.length = h1 := Q1 (Q5 _)
  by_cases hid : (R.putId (cf m) : Int) = 0
  ·rw [if_pos (by omega)]
   refine ⟨h1, b1, ?_, hx1, hb1b, by omega, hks, hps⟩
   refine aF (XCode.cutsN [0, 1] c33.code) K2 rfl mixed (by simp [c33]) fun hh hargs => ?_
   have hh1 := al (Q3 h.length 1) hh
   simp [c33]
   refine aU ⟨[(0, .box i 0), (2, .sl 1 (ai ao spec) none .no), (3, .v (.int .i64 most)), (9, .box h.length 0)], [], h ++ [aG m], []⟩ ?_ ?_
   ·by_cases hne : m.name = []
    ·simp [hne, Leq, hh1, ag, hi1]
    ·have : o = none := Rb.1 fun h => hA ⟨h, hne⟩
     simp [this, hne, Leq, hh1, ag, hi1]
   simp
   refine aj ct1 (by simp [cf, aR]) (by simp) ?_
   have hid2 : ((R.putId (cf m) : Int) == 0) = true := by simpa using hid
   simp [hid2, hj1, hx1.lt, ag, htk]
   omega
  rw [if_neg (by omega)]
  have hid2 : ((R.putId (cf m) : Int) == 0) = false := by simpa using hid
  have hset : ∀ c : Oc, (aK (ic m (R.putId (cf m)))).set 6 (.sl 2 [jg c] none .no) = aK (dK m (R.putId (cf m)) c) := fun _ => rfl
  have hg1 : ∀ xs : List (List AV), (h1 ++ xs)[h.length]? = some (aG m) := fun xs => by rw [Q2 (by omega)]; exact hj1
  have hh2 : aw (h1.length + 1) h1 := al (Q3 _ _) hx1.lt
  by_cases hc : spec.contains (R.putId (cf m) : Int) = true
  ·rw [if_pos hc]
   obtain ⟨G, hG⟩ : ∃ G, h1.set h.length (aG (named m [])) = G := ⟨_, rfl⟩
   have hGl : G.length = h1.length := by rw [<- hG, Q8]
   have hGs : ∀ x : List AV, (h1 ++ [x]).set h.length (aG (named m [])) = G ++ [x] := fun x => by rw [List.set_append_left _ _ (by omega), hG]
   have hGg : ∀ x : List AV, (G ++ [x])[h1.length]? = some x := fun x => by rw [<- hGl]; simp
   have hG0 : ∀ x : List AV, (G ++ [x])[h.length]? = some (aG (named m [])) := fun x => by rw [Q2 (by omega), <- hG]; exact Ra (by omega)
   have hGt : ∀ x y : List AV, (G ++ [x]).set h1.length y = G ++ [y] := fun x y => by rw [<- hGl]; simp
   have hGlt : aw h1.length G := by rw [<- hG]; exact aN hx1.lt (by simp)
   refine ⟨h1.set h.length (aG (named m [])), b1, ?_, hx1.move (Q4 (by omega)) (fun _ => Q4 (by omega)) (by rw [Q8]; exact aN hx1.lt (by simp)), hb1b, by rw [Q8]; omega, fun k hk n1 n2 => by rw [Q4 (by omega)]; exact hks k hk n1 n2, fun hp => aP (hps hp) (dT _) _⟩
   refine aF (XCode.cutsN [0, 1, 0, 0, 0, 1] c33.code) K2 rfl mixed (by simp [c33]) fun hh hargs => ?_
   have hh1 := al (Q3 h.length 1) hh
   simp [c33]
   refine aU ⟨[(0, .box i 0), (2, .sl 1 (ai ao spec) none .no), (3, .v (.int .i64 most)), (9, .box h.length 0)], [], h ++ [aG m], []⟩ ?_ ?_
   ·by_cases hne : m.name = []
    ·simp [hne, Leq, hh1, ag, hi1]
    ·have : o = none := Rb.1 fun h => hA ⟨h, hne⟩
     simp [this, hne, Leq, hh1, ag, hi1]
   simp
   refine aj ct1 (by simp [cf, aR]) (by simp) ?_
   simp [hid2, hj1]
   have hm3 : (R.putId (cf m) : Int) ∈ spec := by simpa using hc
   refine aU ⟨[(0, .box i 0), (2, .sl 1 (ai ao spec) none .no), (3, .v (.int .i64 most)), (9, .box h.length 0), (13, .v (.int .i64 (R.putId (cf m) : Int))), (14, .box h1.length 0)], [], h1 ++ [aK (ic m (R.putId (cf m)))], [i, b]⟩ ?_ ?_
   ·by_cases hne : m.name = []
    ·simp [hne, hg1, Leq, hh2, cv]
     refine ⟨by omega, di _ (by simp [dC, LeqV, bG]), by omega, by omega, by omega⟩
    ·simp [hne, Leq, hh2, cv, hg1]
     refine ⟨by omega, di _ (by simp [dC, LeqV, bG]), by omega, by omega, by omega⟩
   simp [hg1]
   refine aa (by simp) (nY hsp _) ?_
   rw [hG]
   simp [hm3, hset, hset0, hg1, hGs, hGg, hG0, hGt, hGl, hGlt]
   exact ⟨by omega, AY _ _ _, by omega⟩
  ·rw [if_neg hc, Hj]
   obtain ⟨b2, hx2, hb2, hb2l⟩ := hx1.norm (k := h1.length + 1) (by omega)
   have hlen1 := ho1.len0
   obtain ⟨h2, b3, ct3, hx3, hb3, hl3, hk3, hp3⟩ := wt (hx2.app [aK (ic m (R.putId (cf m)))] (by simp)) ho1 (by omega) (by omega) (R.putId (cf m) : Int)
   rw [Q6, Q7] at hb3 hl3 hk3
   have hg3 : h2[h.length]? = some (aG m) := by rw [hk3 _ (by omega) (by omega) (by omega)]; exact hg1 _
   have hg4 : h2[h1.length]? = some (aK (ic m (R.putId (cf m)))) := by rw [hk3 _ (by omega) (by omega) (by omega)]; simp
   have lF0 := fun x => gA aG 10 x (cA spec most)
   have lE0 := fun x => gA aK 8 x (roomE spec most)
   have hrf := gX spec most
   have hroom := tw spec hsp most h2
   obtain ⟨F, hF⟩ : ∃ F, cA spec most ++ [named m (an (R.putId (cf m)))] = F := ⟨_, rfl⟩
   obtain ⟨E, hE⟩ : ∃ E, roomE spec most ++ [dK m (R.putId (cf m)) ⟨1, R.putId (cf m)⟩] = E := ⟨_, rfl⟩
   have hFl : F.length = (cA spec most).length + 1 := by rw [<- hF]; simp
   have hEl : E.length = (roomE spec most).length + 1 := by rw [<- hE]; simp
   have kF : frzOk (ai aG F).flatten := by rw [<- hF]; exact jI _ _
   have kE : frzOk (ai aK E).flatten := by rw [<- hE]; exact jH _ _
   have zF := jb (c := aG) (k := 10) (fun _ => rfl) F h2.length ((cA spec most).length + 1) (by rw [hFl])
   have zE := jb (c := aK) (k := 8) (fun _ => rfl) E (h2.length + 1) ((roomE spec most).length + 1) (by rw [hEl])
   have lF := fun m => fmE.flat_lt m F
   have lE := fun m => enE.flat_lt m E
   have f1 := (lF0 h).1.id
   have f2 := (lF0 h).1.unown
   have f3 := (lF0 h).1.cells
   have g1 := (lE0 h).1.id
   have g2 := (lE0 h).1.unown
   have g3 := (lE0 h).1.cells
   generalize hF0 : cA spec most = F0 at *
   generalize hE0 : roomE spec most = E0 at *
   generalize fm 10 aG F0 = fv at *
   generalize fm 8 aK E0 = ev at *
   obtain ⟨G, hG⟩ : ∃ G, (h2.set h.length (aG (named m (an (R.putId (cf m)))))).set h1.length (aK (dK m (R.putId (cf m)) ⟨1, R.putId (cf m)⟩)) = G := ⟨_, rfl⟩
   have hGl : G.length = h2.length := by rw [<- hG, Q8, Q8]
   have hGlt : aw h2.length G := by rw [<- hG]; exact aN (aN hx3.lt (by simp)) (by simp)
   have hGg : ∀ k, k ≠ h.length -> k ≠ h1.length -> G[k]? = h2[k]? := fun k n1 n2 => by rw [<- hG, Q4 (by omega), Q4 (by omega)]
   have hg5 : ∀ x : List AV, (h2.set h.length x)[h1.length]? = some (aK (ic m (R.putId (cf m)))) := fun x => by rw [Q4 (by omega)]; exact hg4
   rw [hF, hE]
   have zN : ∀ cs n, AV.frz h2.length cs (.bsl (h2.length + 1) 0 8 n) = .bsl (h2.length + 1) 0 8 n := fun cs n => if_neg (by omega)
   have hf5 := (lF0 h2).1.ltV fmE.lt (Q5 _)
   have hg6 := (lE0 h2).1.ltV enE.lt (Q5 _)
   have htkG : G.take h2.length = G := Q1 (by omega)
   refine ⟨G, b3, ?_, hx3.move (hGg _ (by omega) (by omega)) (fun _ => hGg _ (by omega) (by omega)) (by rw [hGl]; exact hGlt), by omega, by omega, fun k hk n1 n2 => ?_, fun hp => ?_⟩
   ·refine aF (XCode.cutsN [0, 1, 0, 0, 0, 1, 0, 0, 0, 0, 1, 2] c33.code) K2 rfl mixed (by simp [c33]) fun hh hargs => ?_
    have hh1 := al (Q3 h.length 1) hh
    simp [c33]
    refine aU ⟨[(0, .box i 0), (2, .sl 1 (ai ao spec) none .no), (3, .v (.int .i64 most)), (9, .box h.length 0)], [], h ++ [aG m], []⟩ ?_ ?_
    ·by_cases hne : m.name = []
     ·simp [hne, Leq, hh1, ag, hi1]
     ·have : o = none := Rb.1 fun h => hA ⟨h, hne⟩
      simp [this, hne, Leq, hh1, ag, hi1]
    simp
    refine aj ct1 (by simp [cf, aR]) (by simp) ?_
    simp [hid2, hj1]
    have hm3 : ¬ (R.putId (cf m) : Int) ∈ spec := by simpa using hc
    refine aU ⟨[(0, .box i 0), (2, .sl 1 (ai ao spec) none .no), (3, .v (.int .i64 most)), (9, .box h.length 0), (13, .v (.int .i64 (R.putId (cf m) : Int))), (14, .box h1.length 0)], [], h1 ++ [aK (ic m (R.putId (cf m)))], [i, b]⟩ ?_ ?_
    ·by_cases hne : m.name = []
     ·simp [hne, hg1, Leq, hh2, cv]
      refine ⟨by omega, di _ (by simp [dC, LeqV, bG]), by omega, by omega, by omega⟩
     ·simp [hne, Leq, hh2, cv, hg1]
      refine ⟨by omega, di _ (by simp [dC, LeqV, bG]), by omega, by omega, by omega⟩
    simp [hg1]
    refine aa (by simp) (nY hsp _) ?_
    simp [hm3]
    refine aa (by simp) ct3 ?_
    simp
    refine aa (by simp) hroom ?_
    simp [f1, f2, f3, g1, g2, g3]
    refine aa (by simp) (dw _ _) ?_
    simp [hg3, hset0, hg5, f1, f2, f3, g1, g2, g3]
    refine aU ⟨[(9, .box h.length 0), (14, .box h1.length 0), (15, fv), (16, ev)], [], G, [i, b]⟩ ?_ ?_
    ·have hle := pw (h := h2.set h.length (aG (named m (an (R.putId (cf m)))))) (De m 1 (R.putId (cf m)) h1.length)
     rw [hG] at hle
     have htk2 : ∀ x : List AV, ((h2.set h.length (aG (named m (an (R.putId (cf m)))))).set h1.length x).take h2.length = (h2.set h.length (aG (named m (an (R.putId (cf m)))))).set h1.length x := fun x => Q1 (by simp)
     simp [hg3, hset0, hg5, Leq, f1, f2, f3, g1, g2, g3, hGl, hGlt, htk2, hf5, hg6]
     refine ⟨by omega, hle, ⟨by omega, by omega⟩, by omega⟩
    have hGm : G[h.length]? = some (aG (named m (an (R.putId (cf m))))) := by rw [<- hG, Q4 (by omega)]; exact Ra (by omega)
    have hGe : G[h1.length]? = some (aK (dK m (R.putId (cf m)) ⟨1, R.putId (cf m)⟩)) := by rw [<- hG]; exact Ra (by rw [Q8]; omega)
    refine rh h2.length (ai aG F).flatten ⟨[(10, .sl 10 (ai aG F) none .no), (11, .bsl (h2.length + 1) 0 8 (E0.length + 1))], [], G ++ [[], (ai aK E).flatten], [i, b]⟩ (h2.length + 1) (ai aK E).flatten ⟨[(10, .sl 10 (ai aG F) none .no), (11, .sl 8 (ai aK E) none .no)], [], G, [i, b]⟩ (by show h.length <= _; omega) kF (by show h.length <= _; omega) kE ?_ ?_ ?_ ?_
    ·rw [<- hGl]; simp
    ·simp [Leq, hGl, zE, lE, hGlt]
     omega
    ·simp [hGm, hGe, f1, f2, f3, g1, g2, g3]
     refine ⟨⟨?_, ?_⟩, ?_⟩
     all_goals
      refine bg (L := F0) (bytes := 160) fmE (lF0 _).1 (named m (an (R.putId (cf m)))) (by omega) (by omega) ?_
      rw [(lF0 h).2.2, (lF0 h).2.1, hF]
      simp [f1, f2, f3, g1, g2, g3, hGl]
      refine bg (L := E0) (bytes := 144) enE (lE0 _).1 (dK m (R.putId (cf m)) ⟨1, R.putId (cf m)⟩) (by omega) (by omega) ?_
      rw [(lE0 h).2.2, (lE0 h).2.1, hE]
      simp [Leq, hGl, hGlt, zF, zN, lF, lE, f1, f2, f3, g1, g2, g3, ag, htkG]
      rw [Q1 (by simp [hGl])]
      exact ⟨by omega, ag _ _, al (Q3 _ 2) hGlt⟩
    ·simp [hGl, hGlt, htkG, ag]
     omega
   ·rw [hGg k (by omega) (by omega), hk3 k (by omega) n1 (by omega), Q2 (by omega)]
    exact hks k hk n1 n2
   ·rw [<- hG]
    exact aP (aP (hp3 (aA (hps hp) fun x hx c hc => by rw [Q9.1 hx] at hc; exact cx _ c hc)) (dT _) _) (cx _) _
end
def KN (id : Int) : AV := .sl 2 [[.v (.int .i64 3), .v (.int .i64 id)]] (some false) .exact
theorem DF (m : Fm) (id : Int) (i : Nat) : dC i 0 (((aK (dc m noneN)).set 2 (.v (.string (ah (an id))))).set 6 (KN id)) (aK (gq m id)) := by
 simp [dC, LeqV, KN, jg, aW, dc, gq]
section
variable {α : Type} {f : α -> List AV} {k : Nat} {h : List (List AV)} {v : AV} {L : List α}
theorem LsV.lenV (hv : LsV f k h v L) : jj v = .of (.v (.int .i64 (L.length : Int))) := by
 rcases hv with ⟨_, rfl, _, rfl⟩ | ⟨_, rfl, _⟩ | ⟨b, rfl, _, _⟩
 ·rfl
 ·unfold jj; simp
 ·rfl
end
theorem wo (spec : List Int) (most id : Int) (s : Sm) : ((ba spec most id s).length : Int) > 0 ↔ ¬ spec.contains id = true := by
 unfold ba
 by_cases h : spec.contains id = true
 ·rw [if_pos h]; simp at h; simp [h]
 ·rw [if_neg h, Q6, Q7]
  exact ⟨fun _ => h, fun _ => by omega⟩
section
variable {h : List (List AV)} {lo i b : Nat} {R : Rg}
set_option maxHeartbeats 4000000 in
theorem FC (hr : XAt lo h i b R) {n : Nat} (ho : RgOk n R) (hn : n + 10 <= 1000) (spec : List Int) (hsp : spec.length <= 1000000) (most : Int) (m : Fm) (o : Option Int) :
  uO 34 [.box i 0, .v (.int .i64 (o.getD 0)), .v (.bool o.isSome), .sl 1 (ai ao spec) none .no, .v (.int .i64 most), .agg (aG m)] lo h i b R (.tup [.sl 10 (ai aG (dy spec most R o m).1) none .no, .sl 8 (ai aK (dy spec most R o m).2) none .no]) (kp R (aE (dy spec most R o m).2)) := by
 have hi := (Q0.1 hr.top).1
 have hset0 : ∀ nm : List UInt8, (aG m).set 2 (.v (.string (ah nm))) = aG (named m nm) := fun _ => rfl
 have hren : aK (dc m noneN) = [.v (.int .i64 (cN m.kind m.what)), .v (.bool false), .v (.string (ah noneN)), .v (.string (ah m.name)), .sl 3 [] none .no, .sl 3 [] none .no, .sl 2 [] none .no, .sl 1 [] none .no] := rfl
 have hlen := ho.len0
 have hi2 : i < h.length + 2 := by omega
 cases o with
 | none =>
  refine ⟨h, b, ?_, hr, .inl rfl, Q5 _, fun _ _ _ _ => rfl, fun h => h⟩
  refine aF (XCode.cutsN [0, 1] c34.code) PL rfl mixed (by simp [c34]) fun hh hargs => ?_
  have hh1 := al (Q3 h.length 2) hh
  simp [c34]
  refine aU ⟨[(2, .v (.bool false)), (11, .box h.length 0), (14, .box (h.length + 1) 0)], [], h ++ [aG m, aK (dc m noneN)], []⟩ ?_ ?_
  ·simp
   refine ⟨?_, ?_⟩
   ·refine aa (by simp) (iS m _) ?_
    simp [Leq, hh1, noneN]
    refine dd h 0 ⟨.inl rfl, .inr ?_, trivial⟩
    simp [dC, LeqV, aW, dc]
   ·refine aa (by simp) (iS m _) ?_
    simp [Leq, hh1, noneN]
    refine dd h 0 ⟨.inl rfl, .inr ?_, trivial⟩
    simp [dC, LeqV, aW, dc]
  simp [hset0, dy, noneN, hh]
  done
 | some id =>
  obtain ⟨s, hs⟩ : ∃ s, mH (R.find id) = s := ⟨_, rfl⟩
  have hss := qe ho id
  have hget := Hr (hr.app [aG m, aK (dc m noneN)] (by simp)) ho (by omega) id
  rw [hs] at hss hget
  obtain ⟨fv, ev, xs, ctr, hrd⟩ := vI spec hsp most id s (by omega) (h ++ [aG m, aK (dc m noneN), db s])
  have hrf := mA spec most id s hss.1 hss.2
  have hrn := wo spec most id s
  have eo : dy spec most R (some id) m = (ba spec most id s ++ [named m (an id)], aI spec most id ++ [gq m id]) := by rw [<- hs]; rfl
  rw [eo, FK]
  have l3 : (h ++ [aG m, aK (dc m noneN), db s]).length = h.length + 3 := by simp
  obtain ⟨H, hH⟩ : ∃ H, H = h ++ [aG m, aK (dc m noneN), db s] ++ xs := ⟨_, rfl⟩
  have hHl : H.length = h.length + 3 + xs.length := by rw [hH, Q6, l3]
  have hHg : ∀ k < h.length, H[k]? = h[k]? := fun k hk => by rw [hH, Ri]; exact Q2 hk
  have hH0 : H[h.length]? = some (aG m) := by rw [hH]; simp
  have hH1 : H[h.length + 1]? = some (aK (dc m noneN)) := by rw [hH]; simp
  have hHp : aQ h -> aQ H := fun hp => by
   rw [hH]
   refine aA (aA hp fun x hx c hc => ?_) hrd.plain
   simp at hx
   rcases hx with rfl | rfl | rfl
   ·exact dT m c hc
   ·exact cx _ c hc
   ·simp [aR] at hc; rcases hc with rfl | rfl <;> rfl
  obtain ⟨b0, hx0, hb0, hb0l⟩ := hr.norm (k := H.length) (by omega)
  have hxH : XAt lo H i b0 R := by
   have := (hx0.app [aG m, aK (dc m noneN), db s] (by simp)).app xs (by have := hrd.lt; rwa [l3] at this ⊢)
   rwa [<- hH] at this
  rw [<- hH] at ctr
  have hf := hrd.f
  have he := hrd.e
  rw [<- hH] at hf he
  have kf := hrd.kf
  have ke := hrd.ke
  rw [l3] at kf ke
  have kfl := hf.bl
  have kel := he.bl
  obtain ⟨H2, b3, hcase, hx2, hb3, hl2, hk2, hp2⟩ : ∃ H2 b3, ((spec.contains id = true /\ H2 = H) \/ (¬ spec.contains id = true /\ ∃ r, Contract Tryz.prog 50 [.box i 0, .v (.int .i64 id)] H (.v (.bool r)) H2 [i, b0])) /\
    XAt lo H2 i b3 (if spec.contains id = true then R else R.ref id) /\ (b3 = b0 \/ H.length <= b3) /\ H.length <= H2.length /\ (∀ k < H.length, k ≠ i -> k ≠ b0 -> H2[k]? = H[k]?) /\ (aQ H -> aQ H2) := by
   by_cases hc : spec.contains id = true
   ·rw [if_pos hc]
    exact ⟨H, b0, .inl ⟨hc, rfl⟩, hxH, .inl rfl, Q5 _, fun _ _ _ _ => rfl, fun h => h⟩
   ·rw [if_neg hc]
    obtain ⟨h', b', ct, q1, q2, q3, q4, q5⟩ := wt hxH ho (by omega) (by omega) id
    exact ⟨h', b', .inr ⟨hc, _, ct⟩, q1, q2, q3, q4, q5⟩
  have g0 : H2[h.length]? = some (aG m) := by rw [hk2 _ (by omega) (by omega) (by omega)]; exact hH0
  have g1 : H2[h.length + 1]? = some (aK (dc m noneN)) := by rw [hk2 _ (by omega) (by omega) (by omega)]; exact hH1
  obtain ⟨H3, hH3⟩ : ∃ H3, (H2.set h.length (aG (named m (an id)))).set (h.length + 1) (aK (gq m id)) = H3 := ⟨_, rfl⟩
  have hl3 : H3.length = H2.length := by rw [<- hH3, Q8, Q8]
  have hk3 : ∀ k, k ≠ h.length -> k ≠ h.length + 1 -> H3[k]? = H2[k]? := fun k n1 n2 => by rw [<- hH3, Q4 (by omega), Q4 (by omega)]
  have hlt3 : aw H2.length H3 := by rw [<- hH3]; exact aN (aN hx2.lt (by simp)) (by simp)
  have hf3 : LsV aG 10 H3 fv (ba spec most id s) := hf.keep fun q hq => by
   have := (kf q hq).1
   have := kfl q hq
   rw [hk3 q (by omega) (by omega), hk2 q (by omega) (by omega) (by omega)]
  have he3 : LsV aK 8 H3 ev (aI spec most id) := he.keep fun q hq => by
   have := ke q hq
   have := kel q hq
   rw [hk3 q (by omega) (by omega), hk2 q (by omega) (by omega) (by omega)]
  have hfe := fun q hq => (kf q hq).2
  have hef : ∀ q ∈ eT ev, q ∉ eT fv := fun q hq hq2 => hfe q hq2 hq
  have he4 : LsV aK 8 (bK fv H3) ev (aI spec most id) := he3.keep fun q hq => dt (hef q hq)
  obtain ⟨G, hG⟩ : ∃ G, bK ev (bK fv H3) = G := ⟨_, rfl⟩
  have hGl : G.length = H2.length := by rw [<- hG, cW, cW, hl3]
  have hGk : ∀ k, (k < h.length \/ H.length <= k) -> G[k]? = H2[k]? := fun k hk => by
   rw [<- hG, dt fun hq => by have := ke k hq; have := kel k hq; omega, dt fun hq => by have := (kf k hq).1; have := kfl k hq; omega]
   exact hk3 k (by omega) (by omega)
  have hGlt : aw H2.length G := by rw [<- hG]; exact eu (eu hlt3)
  have hbl : b3 < h.length \/ H.length <= b3 := by omega
  obtain ⟨F, hF⟩ : ∃ F, ba spec most id s ++ [named m (an id)] = F := ⟨_, rfl⟩
  obtain ⟨E, hE⟩ : ∃ E, aI spec most id ++ [gq m id] = E := ⟨_, rfl⟩
  have hFl : F.length = (ba spec most id s).length + 1 := by rw [<- hF]; simp
  have hEl : E.length = (aI spec most id).length + 1 := by rw [<- hE]; simp
  have kF : frzOk (ai aG F).flatten := by rw [<- hF]; exact jI _ _
  have kE : frzOk (ai aK E).flatten := by rw [<- hE]; exact jH _ _
  have zF := jb (c := aG) (k := 10) (fun _ => rfl) F H2.length ((ba spec most id s).length + 1) (by rw [hFl])
  have zE := jb (c := aK) (k := 8) (fun _ => rfl) E (H2.length + 1) ((aI spec most id).length + 1) (by rw [hEl])
  have zN : ∀ cs n, AV.frz H2.length cs (.bsl (H2.length + 1) 0 8 n) = .bsl (H2.length + 1) 0 8 n := fun cs n => if_neg (by omega)
  have lF := fun m => fmE.flat_lt m F
  have lE := fun m => enE.flat_lt m E
  have f1 := hf.id
  have f2 := hf.unown
  have f3 := hf.cells
  have f4 := hf.lenV
  have f5 := hf.ltV fmE.lt hl2
  have f6 := hf.ltV fmE.lt (Q5 _)
  have e1 := he.id
  have e2 := he.unown
  have e3 := he.cells
  have e5 := he.ltV enE.lt hl2
  have e6 := he.ltV enE.lt (Q5 _)
  have nf0 : ¬ h.length ∈ eT fv := fun hq => by have := (kf _ hq).1; omega
  have nf1 : ¬ h.length + 1 ∈ eT fv := fun hq => by have := (kf _ hq).1; omega
  have ne0 : ¬ h.length ∈ eT ev := fun hq => by have := ke _ hq; omega
  have ne1 : ¬ h.length + 1 ∈ eT ev := fun hq => by have := ke _ hq; omega
  have hlF : (ba spec most id s).length <= 100 := by omega
  have hlE : (aI spec most id).length <= 100 := by omega
  rw [hF, hE]
  generalize ba spec most id s = F0 at *
  generalize aI spec most id = E0 at *
  refine ⟨G, b3, ?_, hx2.move (hGk _ (by omega)) (fun _ => hGk _ hbl) (by rw [hGl]; exact hGlt), by omega, by omega, fun k hk n1 n2 => ?_, fun hp => ?_⟩
  ·refine aF (XCode.cutsN [0, 1, 0, 0, 0, 1, 0, 1, 2] c34.code) PL rfl mixed (by simp [c34]) fun hh hargs => ?_
   have hh1 := al (Q3 h.length 2) hh
   have htkH : H.take H.length = H := Q1 (Q5 _)
   have htk2 : H2.take H2.length = H2 := Q1 (Q5 _)
   simp [c34]
   refine aU ⟨[(0, .box i 0), (1, .v (.int .i64 id)), (2, .v (.bool true)), (3, .sl 1 (ai ao spec) none .no), (4, .v (.int .i64 most)), (11, .box h.length 0), (14, .box (h.length + 1) 0)], [], h ++ [aG m, aK (dc m noneN)], []⟩ ?_ ?_
   ·simp
    refine ⟨?_, ?_⟩
    ·refine aa (by simp) (iS m _) ?_
     simp [Leq, hh1, noneN, hi2]
     refine dd h 0 ⟨.inl rfl, .inr ?_, trivial⟩
     simp [dC, LeqV, aW, dc]
    ·refine aa (by simp) (iS m _) ?_
     simp [Leq, hh1, noneN, hi2]
     refine dd h 0 ⟨.inl rfl, .inr ?_, trivial⟩
     simp [dC, LeqV, aW, dc]
   simp
   refine aa (by simp) hget ?_
   simp
   refine aa (by simp) ctr ?_
   simp [f1, f2, f3, e1, e2, e3]
   have gs0 : ∀ x : List AV, (H2.set h.length x)[h.length]? = some x := fun x => Ra (by omega)
   have gs1 : ∀ x : List AV, (H2.set h.length x)[h.length + 1]? = some (aK (dc m noneN)) := fun x => by rw [Q4 (by omega)]; exact g1
   have gs2 : ∀ x y : List AV, ((H2.set h.length x).set (h.length + 1) y)[h.length + 1]? = some y := fun x y => Ra (by rw [Q8]; omega)
   refine aU ⟨[(1, .v (.int .i64 id)), (11, .box h.length 0), (14, .box (h.length + 1) 0), (17, fv), (18, ev)], [], H2, [i, b]⟩ ?_ ?_
   ·rcases hcase with ⟨hc, rfl⟩ | ⟨hc, r, ct⟩
    ·have hz : ¬ (F0.length : Int) > 0 := fun h => hrn.1 h hc
     have hz2 : F0.length = 0 := by omega
     simp [-jj, f1, f2, f3, f4, e1, e2, e3, hz2, Leq, hx2.lt, ag, htk2, f5, e5]
     omega
    ·have hz : (F0.length : Int) > 0 := hrn.2 hc
     have hz2 : 0 < F0.length := by omega
     simp [-jj, f1, f2, f3, f4, e1, e2, e3, hz2]
     refine aa (by simp) ct ?_
     simp [-jj, f1, f2, f3, f4, e1, e2, e3, hz2, Leq, hx2.lt, ag, htk2, f5, e5]
     omega
   simp
   refine aa (by simp) (dw _ _) ?_
   simp [g0, hset0]
   refine aU ⟨[(11, .box h.length 0), (14, .box (h.length + 1) 0), (17, fv), (18, ev)], [], H3, [i, b]⟩ ?_ ?_
   ·have hle := pw (h := H2.set h.length (aG (named m (an id)))) (DF m id (h.length + 1))
    rw [hH3] at hle
    simp [g0, g1, gs0, gs1, gs2, hset0, Leq, f1, f2, f3, e1, e2, e3, hl3, hlt3, f5, e5]
    refine ⟨by omega, ?_, by omega⟩
    rw [Q1 (by simp)]
    exact hle
   have h30 : H3[h.length]? = some (aG (named m (an id))) := by rw [<- hH3, Q4 (by omega)]; exact Ra (by omega)
   have h31 : H3[h.length + 1]? = some (aK (gq m id)) := by rw [<- hH3]; exact Ra (by rw [Q8]; omega)
   refine rh H2.length (ai aG F).flatten ⟨[(12, .sl 10 (ai aG F) none .no), (13, .bsl (H2.length + 1) 0 8 (E0.length + 1))], [], G ++ [[], (ai aK E).flatten], [i, b]⟩ (H2.length + 1) (ai aK E).flatten ⟨[(12, .sl 10 (ai aG F) none .no), (13, .sl 8 (ai aK E) none .no)], [], G, [i, b]⟩ (by show h.length <= _; omega) kF (by show h.length <= _; omega) kE ?_ ?_ ?_ ?_
   ·rw [<- hGl]; simp
   ·simp [Leq, hGl, zE, lE, hGlt]
    omega
   ·simp [h30, h31, f1, f2, f3, e1, e2, e3]
    refine ⟨⟨?_, ?_⟩, ?_⟩
    all_goals
     refine bg (L := F0) (bytes := 160) fmE hf3 (named m (an id)) (by omega) (by omega) ?_
     rw [hF]
     simp [f1, f2, f3, e1, e2, e3, hl3, cW, nf0, nf1]
     refine bg (L := E0) (bytes := 144) enE (he4.app [(ai aG F).flatten]) (gq m id) (by omega) (by omega) ?_
     rw [hE, mV he4.bl, hG]
     simp [Leq, hGl, hGlt, zF, zN, lF, lE, f1, f2, f3, e1, e2, e3, ag, hl3, cW, nf0, nf1, ne0, ne1]
     rw [Q1 (by simp [hGl])]
     refine ⟨by omega, ag _ _, al (Q3 _ 2) hGlt, fun q hq hq2 => ?_⟩
     rcases hq with hq | hq | hq
     ·have := ke q hq; omega
     ·have := (kf q hq).1; omega
     ·exact hq
   ·have htkG : G.take H2.length = G := Q1 (by omega)
    simp [hGl, hGlt, htkG, ag]
    omega
  ·rw [hGk k (.inl hk), hk2 k (by omega) n1 (by omega)]
   exact hHg k hk
  ·rw [<- hG, <- hH3]
   exact gH (gH (aP (aP (hp2 (hHp hp)) (dT _) _) (cx _) _))
end
section
variable {h : List (List AV)} {lo lo2 i b it c mm : Nat} {R : Rg} {L : List Nm}
set_option maxHeartbeats 4000000 in
theorem Jr (hr : XAt lo h i b R) {n : Nat} (ho : RgOk n R) (hn : n + 10 <= 1000) (hnl : NlAt lo2 h it c mm L) (hs : Nm.Rise L) (l : List En) (hl : l.length <= 1000000) (hg : ∀ x ∈ l, x.good.length <= 1000000) (hln : L.length + (opsOf l).length <= 1000000) (spec : List Int) (hsp : spec.length <= 1000000) (most : Int) (m : Fm) (hm : FmSh m)
  {o : Option Int} (hoo : dj m.name (Nm.get m.name L) (opsOf l) = o) (nb : Nat) :
  uO 9 [.box i 0, .box it 0, .sl 8 (ai aK l) none .no, .sl 1 (ai ao spec) none .no, .v (.int .i64 most), .agg (aG m)] lo h i b R (.tup [.sl 10 (ai aG (cG spec most R o m).1) none .no, .sl 8 (ai aK (cG spec most R o m).2) none .no]) (jf spec most R o m nb) := by
 have hi := (Q0.1 hr.top).1
 cases hne : ey m with
 | false =>
  have e1 : cG spec most R o m = ([], []) := if_pos hne
  have e2 : jf spec most R o m nb = R := if_pos hne
  rw [e1, e2]
  refine ⟨h, b, ?_, hr, .inl rfl, Q5 _, fun _ _ _ _ => rfl, fun h => h⟩
  refine ab k9 mixed (by simp [c9]) fun hh hargs => ?_
  simp [c9]
  refine aa (by simp) (pL m _) ?_
  simp [hne, hh]
  done
 | true =>
 have hne2 : ¬ ey m = false := by simp [hne]
 have hlk := yG (.inr ⟨_, _, _, _, rfl, hnl.app [aG m] (by simp)⟩) hs (hr.app [aG m] (by simp)).lt l hl hg hln m.name
 rw [hoo] at hlk
 have hi1 : i < h.length + 1 := by omega
 have walk : ∀ {h' : List (List AV)} {F : List Fm} {E : List En}, h.length <= h'.length -> aw h'.length h' ->
   (m.kind = 80 -> Contract Tryz.prog 33 [.box i 0, .v (.bool o.isSome), .sl 1 (ai ao spec) none .no, .v (.int .i64 most), .agg (aG m)] (h ++ [aG m]) (.tup [.sl 10 (ai aG F) none .no, .sl 8 (ai aK E) none .no]) h' [i, b]) ->
   (¬ m.kind = 80 -> eC m -> Contract Tryz.prog 34 [.box i 0, .v (.int .i64 (o.getD 0)), .v (.bool o.isSome), .sl 1 (ai ao spec) none .no, .v (.int .i64 most), .agg (aG m)] (h ++ [aG m]) (.tup [.sl 10 (ai aG F) none .no, .sl 8 (ai aK E) none .no]) h' [i, b]) ->
   (¬ m.kind = 80 -> ¬ eC m -> m.kind = 67 /\ m.what = 83 -> F = [] /\ E = [ly m] /\ h' = h) ->
   (¬ m.kind = 80 -> ¬ eC m -> ¬ (m.kind = 67 /\ m.what = 83) -> F = [m] /\ E = lX m /\ h' = h) ->
   Contract Tryz.prog 9 [.box i 0, .box it 0, .sl 8 (ai aK l) none .no, .sl 1 (ai ao spec) none .no, .v (.int .i64 most), .agg (aG m)] h (.tup [.sl 10 (ai aG F) none .no, .sl 8 (ai aK E) none .no]) h' [i, b] := fun {h' F E} hlen hlt c1 c2 c3 c4 => by
  refine aF (XCode.cutsN [0, 0, 1] c9.code) k9 rfl mixed (by simp [c9]) fun hh hargs => ?_
  have hh1 := al (Q3 h.length 1) hh
  have htk : h'.take h'.length = h' := Q1 (Q5 _)
  simp [c9]
  refine aa (by simp) (pL m _) ?_
  simp [hne]
  refine aU ⟨[(0, .box i 0), (3, .sl 1 (ai ao spec) none .no), (4, .v (.int .i64 most)), (11, .box h.length 0), (14, .v (.int .i64 (o.getD 0))), (15, .v (.bool o.isSome))], [], h ++ [aG m], []⟩ ?_ ?_
  ·simp
   refine aa (by simp) hlk ?_
   simp [Leq, hh1, hi1, ag]
   done
  have bt : ∀ {x : Int} (c : Int), x = c -> (x == c) = true := fun c h => by simpa using h
  have bf : ∀ {x : Int} (c : Int), ¬ x = c -> (x == c) = false := fun c h => by simpa using h
  by_cases k1 : m.kind = 80
  ·have b1 := bt 80 k1
   simp [b1]
   refine aa (by simp) (c1 k1) ?_
   simp [htk, hlt, ag, hlen]
   done
  have b1 := bf 80 k1
  by_cases k2 : m.kind = 66
  ·have b2 := bt 66 k2
   simp [b1, b2]
   refine aa (by simp) (c2 k1 (.inl k2)) ?_
   simp [htk, hlt, ag, hlen]
   done
  have b2 := bf 66 k2
  by_cases k3 : m.kind = 68
  ·have b3 := bt 68 k3
   have b4 : (m.kind == 67) = false := by rw [k3]; rfl
   have b5 : (m.kind == 81) = false := by rw [k3]; rfl
   have b6 : (m.kind == 72) = false := by rw [k3]; rfl
   by_cases w : m.what = 83
   ·have bw := bt 83 w
    simp [b1, b2, b3, bw]
    refine aa (by simp) (c2 k1 (.inr ⟨k3, w⟩)) ?_
    simp [htk, hlt, ag, hlen]
    done
   have bw := bf 83 w
   obtain ⟨rfl, rfl, rfl⟩ := c4 k1 (fun h => by rcases h with h | h; exact k2 h; exact w h.2) (fun h => w h.2)
   simp [b1, b2, b3, b4, b5, b6, bw]
   refine ⟨?_, ?_⟩
   all_goals
    refine aa (by simp) (iS m _) ?_
    simp [lX, k3, hh, aW]
    done
  have b3 := bf 68 k3
  have hnu : ¬ eC m := fun h => by rcases h with h | h; exact k2 h; exact k3 h.1
  by_cases k4 : m.kind = 67
  ·have b4 := bt 67 k4
   have b5 : (m.kind == 81) = false := by rw [k4]; rfl
   have b6 : (m.kind == 72) = false := by rw [k4]; rfl
   by_cases w : m.what = 83
   ·have bw := bt 83 w
    obtain ⟨rfl, rfl, rfl⟩ := c3 k1 hnu ⟨k4, w⟩
    simp [b1, b2, b3, b4, bw]
    refine aj (xN [uM] og.2.1 (by have := og.2.2; omega) (by simp) _) (by simp [bW, uM]) (by simp) ?_
    simp [hh, aW, ly, bG, cV, weak]
    done
   have bw := bf 83 w
   obtain ⟨rfl, rfl, rfl⟩ := c4 k1 hnu (fun h => w h.2)
   simp [b1, b2, b3, b4, b5, b6, bw]
   refine ⟨?_, ?_⟩
   all_goals
    refine aa (by simp) (iS m _) ?_
    simp [lX, k4, hh, aW]
    done
  have b4 := bf 67 k4
  obtain ⟨rfl, rfl, rfl⟩ := c4 k1 hnu (fun h => k4 h.1)
  by_cases k5 : m.kind = 81
  ·have b5 := bt 81 k5
   simp [b1, b2, b3, b4, b5]
   simp [lX, k5, hh, aW, bG, cV, weak]
   done
  have b5 := bf 81 k5
  by_cases k6 : m.kind = 72
  ·have b6 := bt 72 k6
   simp [b1, b2, b3, b4, b5, b6]
   simp [lX, k6, hh, aW]
   done
  have b6 := bf 72 k6
  simp [b1, b2, b3, b4, b5, b6]
  refine ⟨?_, ?_⟩
  all_goals
   refine aa (by simp) (iS m _) ?_
   simp [lX, k5, k6, hh, aW]
   done
 unfold cG jf
 rw [if_neg hne2, if_neg hne2]
 have hle1 : (h ++ [aG m]).length = h.length + 1 := by simp
 have hgt : ∀ k < h.length, (h ++ [aG m])[k]? = h[k]? := fun k hk => Q2 hk
 have hpl : aQ h -> aQ (h ++ [aG m]) := fun hp => aA hp fun x hx c hc => by rw [Q9.1 hx] at hc; exact dT m c hc
 have hr1 := hr.app [aG m] (by simp)
 by_cases k1 : m.kind = 80
 ·rw [if_pos k1, if_pos k1]
  obtain ⟨h', b', ct, q1, q2, q3, q4, q5⟩ := Ab hr1 ho hn spec hsp most m hm k1 o nb
  rw [hle1] at q2 q3 q4
  exact ⟨h', b', walk (by omega) q1.lt (fun _ => ct) (fun h _ => absurd k1 h) (fun h _ _ => absurd k1 h) (fun h _ _ => absurd k1 h), q1, by omega, by omega, fun k hk n1 n2 => by rw [q4 k (by omega) n1 n2]; exact hgt k hk, fun hp => q5 (hpl hp)⟩
 rw [if_neg k1, if_neg k1]
 by_cases ku : eC m
 ·rw [if_pos ku, if_pos ku]
  obtain ⟨h', b', ct, q1, q2, q3, q4, q5⟩ := FC hr1 ho hn spec hsp most m o
  rw [hle1] at q2 q3 q4
  exact ⟨h', b', walk (by omega) q1.lt (fun h => absurd h k1) (fun _ _ => ct) (fun _ h _ => absurd ku h) (fun _ h _ => absurd ku h), q1, by omega, by omega, fun k hk n1 n2 => by rw [q4 k (by omega) n1 n2]; exact hgt k hk, fun hp => q5 (hpl hp)⟩
 rw [if_neg ku, if_neg ku]
 by_cases kc : m.kind = 67 /\ m.what = 83
 ·rw [if_pos kc]
  exact ⟨h, b, walk (Q5 _) hr.lt (fun h => absurd h k1) (fun _ h => absurd h ku) (fun _ _ _ => ⟨rfl, rfl, rfl⟩) (fun _ _ h => absurd kc h), hr, .inl rfl, Q5 _, fun _ _ _ _ => rfl, fun h => h⟩
 rw [if_neg kc]
 exact ⟨h, b, walk (Q5 _) hr.lt (fun h => absurd h k1) (fun _ h => absurd h ku) (fun _ _ h => absurd h kc) (fun _ _ _ => ⟨rfl, rfl, rfl⟩), hr, .inl rfl, Q5 _, fun _ _ _ _ => rfl, fun h => h⟩
end
end Go.Proofs.YtdfgljojemmlcaaGreat.Ax
