/- All that is said may be said; each sync and each query is answered with just one Z, at last. -/
import Derived.Test.YtknohkmpficjgaaGreatDoorQAxSf
import Derived.Test.YtknohkmpficjgaaGreatDoorCards
import Derived.Test.YtknohkmpficjgaaGreatDoorTie
import Derived.Below
import Derived.LaidMore
import Derived.LaidHandle
import Derived.LaidSub
import Derived.LaidLaws
import Derived.Lay
import Derived.SevenTiedAt
import Derived.Stop.Joined
set_option linter.unusedSimpArgs false
set_option linter.unusedVariables false
open List renaming length_append -> Q7, getElem?_eq_some_iff -> Q8, length_nil -> Q9, all_eq_true -> Ra, length_cons -> Rb, mem_cons_of_mem -> Rc, flatMap_cons -> Re, getElem?_append_left -> Rf, getElem_mem -> Rj, mem_filter -> Rk, range -> Rm
open Bool renaming and_eq_true -> Rg
open Nat renaming zero_le -> Rh, le_add_right -> Ri
open UInt8 renaming ofNat -> Rl
namespace Go.Proofs.YtknohkmpficjgaaGreatDoor.Ax
open Go.RowKit Go.Deep Go.ChangeShapes Go.WideShapes Go.ChangeAt Go.Joins Go By
section
variable {P : Program} {t : TypeId}
end
end Go.Proofs.YtknohkmpficjgaaGreatDoor.Ax
namespace Go.Proofs.YtknohkmpficjgaaGreatDoor.Ax
open Go.RowKit Go By YtknohkmpficjgaaGreatDoor.Nm Dg
set_option maxRecDepth 10000
section
variable {h : List (List AV)} {i : Nat}
end
theorem xS {m : Fm} (h : bY m = true) : nn m /\ (∀ c ∈ m.params, c.2.length <= 300) /\ (bN m).length <= 100000 /\ m.params.length <= 50 /\ m.oids.length <= 50 /\ m.name.length <= 300 /\ m.portal.length <= 300 /\ m.text.length <= 1000 := by
 unfold bY mC at h
 simp only [Rg, Bool.not_eq_true', Bool.or_eq_false_iff, decide_eq_false_iff_not, decide_eq_true_eq] at h
 obtain ⟨⟨h1, h2, h3, h4⟩, h5, h6, h7, h8⟩ := h
 have hc : ∀ c ∈ m.params, c.2.length <= 300 := fun c hc => by
  have := List.any_eq_false.1 h5 c hc
  simp [nX] at this; omega
 refine ⟨⟨by omega, by omega, by omega, by omega, fun c h => by have := hc c h; omega, by omega, by omega, by omega⟩, hc, ?_, by omega, by omega, by omega, by omega, by omega⟩
 have numsL : ∀ (size : Int) (l : List Int), size <= 4 -> l.length <= 50 -> (co (dq size) l).length <= 204 := fun size l hs hl => by
  have key : ∀ l : List Int, (l.flatMap (dq size)).length <= 4 * l.length := fun l => by
   induction l with
   | nil => simp
   | cons x l ih =>
    have := put_len x size hs []
    rw [Re, Q7, Rb]
    simp only [dq, Q9] at this ⊢
    omega
  have := key l
  have := put_len (l.length : Int) 2 (by omega) []
  unfold co
  rw [Q7]
  simp only [Q9] at this
  omega
 have cellsL : (co dd m.params).length <= 15204 := by
  have key : ∀ l : List Cl, (∀ c ∈ l, c.2.length <= 300) -> (l.flatMap dd).length <= 304 * l.length := fun l => by
   induction l with
   | nil => intro _; simp
   | cons x l ih =>
    intro hl
    have h1 := ih fun c hc => hl c (Rc _ hc)
    have h2 := hl x (List.mem_cons_self ..)
    rw [Re, Q7, Rb]
    obtain ⟨n, b⟩ := x
    have h2' : b.length <= 300 := h2
    cases n with
    | true =>
     have := put_len 4294967295 4 (by omega) []
     rw [nv]; simp only [Q9] at this; omega
    | false =>
     have := put_len (b.length : Int) 4 (by omega) []
     rw [ml, Q7]; simp only [Q9] at this; omega
  have := key m.params hc
  have := put_len (m.params.length : Int) 2 (by omega) []
  unfold co
  rw [Q7]
  simp only [Q9] at this
  omega
 have n1 := numsL 4 m.oids (by omega) (by omega)
 have n2 := numsL 2 m.formats (by omega) (by omega)
 have n3 := numsL 2 m.results (by omega) (by omega)
 have n4 := put_len m.max 4 (by omega) (em [m.portal])
 have t : ∀ (l : List UInt8), (He.encT l).length = l.length + 1 := bI
 unfold bN
 repeat' split
 all_goals simp only [em, Re, List.flatMap_nil, Q7, Rb, Q9, t, List.append_nil] at n4 ⊢
 all_goals omega
theorem H8 {l : List Int} (h : l.all (fv 0 4294967295) = true) : l.all (dl 4) = true := Ra.2 fun x hx => by
 have := Ra.1 h x hx
 unfold fv at this
 simp at this
 unfold dl bp pM iv
 simp
 omega
theorem GL {m : Fm} (h : bY m = true) (c : Bool) (hc : c = true -> bc m = 0) : FmS c m := by
 obtain ⟨_, q1, _, q2, q3, q4, q5, q6⟩ := xS h
 have parts : c = true -> m.oids.all (fv 0 4294967295) = true /\ m.params.all bE = true := fun hh => by
  have := hc hh
  unfold bc at this
  split at this
  ·cases this
  ·split at this
   ·rename_i h2
    simp only [Rg, fO] at h2
    exact ⟨h2.2.1.1.2, h2.2.1.2.2.2.2⟩
   ·cases this
 exact ⟨by omega, by omega, q6, ⟨by omega, fun hh => H8 (parts hh).1⟩, ⟨by omega, fun x hx => ⟨by have := q1 x hx; omega, fun hh => Ra.1 (parts hh).2 x hx⟩⟩⟩
theorem uB {n : Nat} {l : List Fm} (h : fS n l = true) : l.length <= n /\ ∀ m ∈ l, bY m = true := by
 unfold fS at h
 simp only [Rg, decide_eq_true_eq] at h
 exact ⟨by omega, fun m hm => Ra.1 h.2 m hm⟩
structure SL where
 H : List (List AV)
 Z : Zs
 j : Nat
structure SL.Ok (c : Bool) (m : Nat) (d : SL) : Prop where
 le : d.j <= m
 g : SsG [] d.H 5 d.Z
 z : ZOk c d.j d.Z
theorem RepX.id {lo i : Nat} {Z' : Zs} {M : List Bk} {h' : List (List AV)} {v : AV} (r : RepX lo i Z' M h' v) : v.idOf = none := by
 cases r with
 | sl hv => subst hv; rfl
 | bx b hl hv hb hn => subst hv; rfl
structure SM where
 H : List (List AV)
 j : Nat
theorem Lp : SsG [] (dU []) 5 (z0 0) := FJ (h := []) trivial (fun cs hcs => by cases hcs)
def eQ (m : Fm) : List UInt8 := if bc m = 0 then [Rl m.kind.toNat] ++ dq 4 (((bN m).length : Int) + 4) ++ bN m else []
theorem Az (a : UInt8) (x y : List UInt8) : (([a] ++ x ++ y).length == 0) = false := by simp
theorem tc (m : Fm) : ((eQ m).length == 0) = !(bc m == 0) := by
 unfold eQ
 by_cases h : bc m = 0
 ·rw [if_pos h, Az, h]; rfl
 ·have : (bc m == 0) = false := by simpa using h
  rw [if_neg h, this]; rfl
structure S1 where
 H : List (List AV)
 j : Nat
 out : List UInt8
inductive S1.Ok (m : Fm) (h : List (List AV)) : S1 -> Prop
 | z : S1.Ok m h ⟨h, 0, []⟩
 | o (x : List (List AV)) (hh : aR (h ++ x).length (h ++ x)) : S1.Ok m h ⟨h ++ x, 1, eQ m⟩
set_option maxHeartbeats 1000000 in
theorem zy (m : Fm) (hp : bY m = true) (hw : 0 <= m.what /\ m.what < 256) (h : List (List AV)) : ae Tryz.prog 38 [.sl 10 [aG m] none .no] h (.sl 1 (ak (eQ m)) none (.own .res)) h [] := by
 obtain ⟨hfit, _, hbody, _⟩ := xS hp
 have hbl : (eQ m).length <= 100005 := by
  have := xR 4 (((bN m).length : Int) + 4) (by omega)
  unfold eQ
  split
  ·rw [Q7, Q7]; show 1 + _ + _ <= _; omega
  ·simp
 have hw1 : IntKind.i64.wrap 1 = 1 := wrap64 (by omega) (by omega)
 refine ac QC mixed (by simp [NA]) fun hh hargs => ?_
 simp [NA]
 refine ar (D := S1) (fun d => ⟨[(8, .sl 10 [aG m] none .no), (9, .v (.int .i64 1)), (10, .v (.int .i64 (d.j : Int)))], [(3, .sl 1 (ak d.out) none (.own (.new 3)))], d.H, []⟩) (S1.Ok m h) (fun d => 1 - d.j) ⟨h, 0, []⟩ .z ?_ ?_
 ·simp [Leq, hh]
 ·intro d hd
  cases hd with
  | z =>
   have hget : ∀ xs, (h ++ aG m :: xs)[h.length]? = some (aG m) := fun xs => by simp
   simp
   refine aa (by simp) (zn m hfit hw _ (by omega)) ?_
   by_cases hr : bc m = 0
   ·have e0 : qU m = (⟨m.kind, bN m⟩, 0) := if_pos hr
    have hb : eQ m = [Rl m.kind.toNat] ++ dq 4 (((bN m).length : Int) + 4) ++ bN m := if_pos hr
    have hk : 0 < m.kind /\ m.kind < 256 := by
     unfold bc at hr
     split at hr
     ·cases hr
     ·rename_i hk
      unfold bS at hk
      split at hk
      ·omega
      ·split at hk <;> omega
    rw [e0]
    simp
    refine aa (by simp) (zG ⟨m.kind, bN m⟩ hk (by show (bN m).length <= _; omega) _) ?_
    rw [<- hb]
    simp
    refine ⟨by omega, ⟨h ++ [aG m, vU ⟨m.kind, bN m⟩], 1, eQ m⟩, .o _ (by simp [aH (Ri h.length 2) hh]), rfl, ?_⟩
    simp [Leq, hh, hw1]
   ·have e0 : qU m = (⟨0, []⟩, bc m) := if_neg hr
    have hb : eQ m = [] := if_neg hr
    rw [e0]
    simp [hr]
    refine ⟨⟨h ++ [aG m, vU ⟨0, []⟩], 1, eQ m⟩, .o _ (by simp [aH (Ri h.length 2) hh]), rfl, ?_⟩
    rw [hb]
    simp [Leq, hh, hw1]
  | o x hx =>
   have hres : ∀ m (es : List (List AV)), iu m (.sl 1 es none (.own (.new 2))) = .sl 1 es none (.own .res) := fun _ _ => rfl
   simp [hh, hres]
theorem zA (m : Fm) (hp : bY m = true) (hw : 0 <= m.what /\ m.what < 256) (h : List (List AV)) : ae Tryz.prog 37 [.agg (aG m)] h (.v (.bool (!(bc m == 0)))) h [] := by
 refine ac QB mixed (by simp [Nz]) fun hh hargs => ?_
 have hb := tc m
 simp [Nz]
 refine ao (zy m hp hw _) (by simp) (by simp) ?_
 have hb2 : (((eQ m).length : Int) == 0) = !(bc m == 0) := by
  rw [<- hb, Bool.eq_iff_iff]
  simp
 simp [hh, hb2]
def lD (l : List Fm) : Bool := l.all fun m => bc m == 0
theorem ut (l : List Fm) (hl : l.length <= 100000) (hp : ∀ m ∈ l, bY m = true) (hw : ∀ m ∈ l, 0 <= m.what /\ m.what < 256) (h : List (List AV)) : ae Tryz.prog 18 [.sl 10 (al aG l) none .no] h (.v (.bool (lD l))) h [] := by
 refine ac Qp mixed (by simp [Nt]) fun hh hargs => ?_
 have e : lD l = !(l.any fun m => !(bc m == 0)) := by unfold lD; rw [<- List.not_all_eq_any_not]; simp
 rw [e]
 simp [Nt]
 refine aa (by simp) (bW mixed PU PY aG (fun m => !(bc m == 0)) l [] _ (by simp) (by simp) (by simp) (fun m hm => zA m (hp m hm) (hw m hm) _) (by omega)) ?_
 simp [hh]
theorem qk {s : Int} (h : wM s = true) : cD (zB s) = 0 := by
 refine iC (by decide : bP 90 = true) ?_ rfl (by decide : jd ⟨90, 0, [], [], [], 0, 0, [], [], [], []⟩ = true) (by decide : jv ⟨90, 0, [], [], [], 0, 0, [], [], [], []⟩ = true) rfl
 unfold wM at h
 have := of_decide_eq_true h
 rcases this with rfl | rfl | rfl <;> decide
def wN (b : Bool) : Nat := if b = true then 1 else 0
def wI (b : Bool) : Int := if b = true then 1 else 0
def sR (j m : Nat) : Int := ((j - m : Nat) : Int)
theorem qL {j m : Nat} (h : j <= m) : sR j m = 0 := by unfold sR; omega
theorem ES (m : Nat) : sR (m + 1) m = 1 := by unfold sR; omega
theorem xt {j m : Nat} {w : Bool} (h : j = m + wN w) : sR j m = wI w := by
 unfold sR wI
 unfold wN at h
 cases w <;> simp at h ⊢ <;> omega
theorem D5 {c w : Bool} {M N : List Bk} {s : Int} (hM : ∀ m ∈ M, BkG c m) (hN : N = M ++ (if w = true then [zB s] else [])) :
  N.length = M.length + wN w /\ ∀ (j : Nat) (h : j < N.length), (j < M.length /\ BkG c N[j]) \/ (j = M.length /\ w = true /\ N[j] = zB s) := by
 subst hN
 refine ⟨by unfold wN; cases w <;> simp, fun j h => ?_⟩
 by_cases hj : j < M.length
 ·refine .inl ⟨hj, ?_⟩
  rw [List.getElem_append_left hj]
  exact hM _ (Rj hj)
 ·cases w with
  | false => simp at h; omega
  | true =>
   simp at h
   have : j = M.length := by omega
   subst this
   exact .inr ⟨rfl, rfl, by simp⟩
set_option maxHeartbeats 4000000 in
theorem ssays_c (l : List Fm) (hok : l.length <= maxLen /\ ∀ x ∈ l, FL x) : ae Tryz.prog 4 [.sl 10 (al aG l) none .no] [] (.v (.bool true)) [] [] := by
 refine bR (XCode.inside (XCode.cuts [false, false, true]) [1, 1, 1, 1, 0, 1, 0, 0, 1, 1, 0, 0] c4.code) k4 rfl mixed (by simp [c4]) fun hh hargs => ?_
 have kf := fun (l : List Fm) H => wE l 60 (by omega) H
 have hp0 : bZ ([] : List (List AV)) := fun cs hcs => by cases hcs
 simp [c4]
 refine aa (by simp) (kf l _) ?_
 cases hl : fS 60 l with
 | false =>
  simp
  refine aa (by simp) (uq _ hp0) ?_
  simp
 | true =>
 obtain ⟨hl60, hlp⟩ := uB hl
 have kn0 := B0 (.box 1 0) rfl rfl rfl ([] ++ [aJ 0 [], fB 0 0]) (by simp)
 have hheap : ([] ++ [aJ 0 [], fB 0 0]) ++ [aJ 0 [], aJ 0 [], [AV.mp (([] ++ [aJ 0 [], fB 0 0] : List (List AV)).length + 1) 1 true], [AV.box 1 0, .mp ([] ++ [aJ 0 [], fB 0 0] : List (List AV)).length 2 false, .box (([] ++ [aJ 0 [], fB 0 0] : List (List AV)).length + 2) 0, .v (.int .u8 73), .v (.bool false), .v (.bool false)]] = dU [] := rfl
 rw [hheap] at kn0
 simp only [List.nil_append, Rb, Q9] at kn0
 simp
 refine aa (by simp) (AJ []) ?_
 simp
 refine aa (by simp) kn0 ?_
 have g0 := Lp
 obtain ⟨H0, hH0⟩ : ∃ H0, H0 = dU [] := ⟨_, rfl⟩
 rw [<- hH0] at g0
 simp [<- hH0]
 have hH0l : H0.length = 6 := by rw [hH0]; rfl
 obtain ⟨c, hc⟩ : ∃ c, c = lD l := ⟨_, rfl⟩
 refine ar (D := SL) (fun d => ⟨[(0, .sl 10 (al aG l) none .no), (3, .box 5 0), (19, .sl 10 (al aG l) none .no), (20, .v (.int .i64 (l.length : Int))), (21, .v (.int .i64 (d.j : Int)))], [], d.H, []⟩) (SL.Ok c l.length) (fun d => l.length - d.j) ⟨H0, z0 0, 0⟩ ⟨Rh _, g0, CC c 0⟩ ?_ ?_
 ·simp [Leq]
  exact ⟨g0.hh, by omega⟩
 ·rintro ⟨H, Z, j⟩ ⟨hj, g, z⟩
  dsimp only at hj g z
  have hgh := g.hh
  have hg5 := g.i_lt
  by_cases hlt : j < l.length
  ·have hw : IntKind.i64.wrap ((j : Int) + 1) = (j : Int) + 1 := wrap64 (by omega) (by omega)
   obtain ⟨f, hf⟩ : ∃ f, f = l[j] := ⟨_, rfl⟩
   have hfm : f ∈ l := by rw [hf]; exact Rj hlt
   have hfp : bY f = true := hlp f hfm
   have hfs : FmS c f := GL hfp c (fun h => by
    rw [hc] at h
    simpa using Ra.1 h f hfm)
   have g1 := g.app (c := aG f) (by simp) (by simp [aF])
   obtain ⟨M, Z2, d2, z2, hM⟩ := Ls g1.none z (by omega) f hfs
   obtain ⟨h2, w2, v2, k2, hr2, g2, t2, hl2, hw2, hs2, hv2⟩ := g1.byS d2
   simp [hlt, <- hf]
   refine gJ ⟨[(0, .sl 10 (al aG l) none .no), (3, .box 5 0), (5, .box H.length 0), (6, .v (.int .i64 (wI (cu Z f)))), (19, .sl 10 (al aG l) none .no), (20, .v (.int .i64 (l.length : Int))), (21, .v (.int .i64 (j : Int)))], [], H ++ [aG f], []⟩ ?_ ?_
   ·simp
    refine aa (by simp) (Ec (b := Z.over) g1.top) ?_
    cases hov : Z.over with
    | true =>
     have hwz : cu Z f = false := by unfold cu; rw [hov]; rfl
     rw [hwz]
     simp [Leq, wI, hgh]
     omega
    | false =>
     by_cases jC : f.kind = 83
     ·have hwz : cu Z f = true := by unfold cu; rw [hov, jC]; rfl
      rw [hwz]
      simp [jC, Leq, wI, hgh]
      omega
     have k83' : (f.kind == 83) = false := by simpa using jC
     by_cases mV : f.kind = 81
     ·have hwz : cu Z f = !Z.skips := by unfold cu; simp [hov, mV]
      rw [hwz]
      simp [jC, k83', mV]
      refine aa (by simp) (B3 g1) ?_
      cases hsk : Z.skips with
      | true =>
       simp [Leq, wI, hgh]
       omega
      | false =>
       simp [Leq, wI, hgh]
       omega
     ·have hwz : cu Z f = false := by unfold cu; simp [hov, jC, mV]
      have k81' : (f.kind == 81) = false := by simpa using mV
      rw [hwz]
      simp [jC, k83', mV, k81', Leq, wI, hgh]
      omega
   ·obtain ⟨hM, hMl⟩ := hM
    obtain ⟨N, hN⟩ : ∃ N, N = M ++ (if cu Z f = true then [zB Z2.status] else []) := ⟨_, rfl⟩
    rw [<- hN] at hr2
    obtain ⟨hNl, hat⟩ := D5 hM hN
    have hid := hr2.id
    have hlw : ∀ m ∈ l, 0 <= m.what /\ m.what < 256 := fun m hm => (hok.2 m hm).2.1
    simp
    refine aa (by simp) k2 ?_
    cases hr2 with
    | sl hv =>
     subst hv
     have g3 := g2
     have hg3 := g3.hh
     have hi3 := g3.i_lt
     have hlN : N.length <= 3000 := by rw [hNl]; unfold wN; split <;> omega
     have hf2 := (Q8.1 (g3.tmp (H.length, aG f) (by simp)).1).1
     dsimp only at hf2
     simp
     refine ar (D := SM) (fun d => ⟨[(0, .sl 10 (al aG l) none .no), (3, .box 5 0), (5, .box H.length 0), (6, .v (.int .i64 (wI (cu Z f)))), (7, .sl 11 (al aU N) none .no), (8, .v (.int .i64 (sR d.j M.length))), (19, .sl 10 (al aG l) none .no), (20, .v (.int .i64 (l.length : Int))), (21, .v (.int .i64 (j : Int))), (46, .sl 11 (al aU N) none .no), (47, .v (.int .i64 (N.length : Int))), (48, .v (.int .i64 (d.j : Int)))], [], d.H, []⟩) (fun d => d.j <= N.length /\ SsG [(H.length, aG f)] d.H 5 Z2) (fun d => N.length - d.j) ⟨h2, 0⟩ ⟨Rh _, g3⟩ ?_ ?_
     ·simp [Leq, sR, hg3, hi3]
      omega
     ·rintro ⟨H4, j4⟩ ⟨hj4, g4⟩
      dsimp only at hj4 g4
      have hg4 := g4.hh
      have hi4 := g4.i_lt
      obtain ⟨hf4, _⟩ := g4.tmp (H.length, aG f) (by simp)
      have hfl4 := (Q8.1 hf4).1
      have hf4x : ∀ xs, (H4 ++ xs)[H.length]? = some (aG f) := fun xs => by rw [Rf hfl4]; exact hf4
      by_cases hlt4 : j4 < N.length
      ·have hw4 : IntKind.i64.wrap ((j4 : Int) + 1) = (j4 : Int) + 1 := wrap64 (by omega) (by omega)
       obtain ⟨m, hm⟩ : ∃ m, m = N[j4] := ⟨_, rfl⟩
       have g5 := g4.app (c := aU m) (by simp) (by simp [aB])
       have g6 := g5.less (L' := [(H.length, aG f)]) (fun t ht => Rc _ ht)
       have hg6 := g6.hh
       have hld : True := trivial
       simp [hlt4, <- hm]
       rcases hat j4 hlt4 with ⟨hjM, hb⟩ | ⟨hjM, hwt, hz⟩
       ·rw [<- hm] at hb
        have Do := hb.kind
        have k90' : (m.kind == 90) = false := by simpa using Do
        have hm0 : sR j4 M.length = sR (j4 + 1) M.length := by rw [qL (by omega), qL (by omega)]
        by_cases sQ : m.kind = 69
        ·simp [Do, k90', sQ, hw4]
         refine ⟨⟨H4 ++ [aU m], j4 + 1⟩, ⟨by show j4 + 1 <= _; omega, g6⟩, by show N.length - (j4 + 1) < N.length - j4; omega, ?_⟩
         simp [Leq, hm0, hg4]
         omega
        ·have k69' : (m.kind == 69) = false := by simpa using sQ
         have k69n : (m.kind != 69) = true := by simp [sQ]
         simp [Do, k90', sQ, k69', k69n, hw4]
         refine aa (by simp) (kL m hb.fit _) ?_
         by_cases hch : cD m = 0
         ·simp [hch, k69n, hw4]
          refine ⟨⟨H4 ++ [aU m], j4 + 1⟩, ⟨by show j4 + 1 <= _; omega, g6⟩, by show N.length - (j4 + 1) < N.length - j4; omega, ?_⟩
          simp [Leq, hm0, hg4]
          omega
         ·have hcf : lD l = false := by
           rw [<- hc]
           cases hcc : c with
           | false => rfl
           | true => rcases hb.ok hcc with h | h; exact absurd h sQ; exact absurd h hch
          have hch' : (cD m == 0) = false := by simpa using hch
          have hchn : (cD m != 0) = true := by simp [hch]
          simp [hch, hch', hchn, k69n, hf4x]
          refine aa (by simp) (sm f _) ?_
          simp [hfp]
          refine aa (by simp) (ut l (by omega) hlp hlw _) ?_
          simp [hcf, hw4]
          refine ⟨⟨H4 ++ [aU m], j4 + 1⟩, ⟨by show j4 + 1 <= _; omega, g6⟩, by show N.length - (j4 + 1) < N.length - j4; omega, ?_⟩
          simp [Leq, hm0, hg4]
          omega
       ·rw [<- hm] at hz
        have kz : m.kind = 90 := by rw [hz]; rfl
        have ks : m.status = Z2.status := by rw [hz]; rfl
        have hch : cD m = 0 := by rw [hz]; exact qk z2.st
        have hfit : ix m := by rw [hz]; simp [ix, zB]
        have hm0 : sR j4 M.length = 0 := qL (by omega)
        have hm1 : sR (j4 + 1) M.length = 1 := by rw [hjM]; exact ES _
        have hw0 : IntKind.i64.wrap 1 = 1 := wrap64 (by omega) (by omega)
        have hwN : IntKind.i64.wrap (N.length : Int) = (N.length : Int) := wrap64 (by omega) (by omega)
        have hjN : (j4 : Int) + 1 = (N.length : Int) := by rw [hNl, hwt, hjM]; unfold wN; simp
        simp [kz, hm0, hw0, hw4, hjN, hwN]
        refine aa (by simp) (lX g6) ?_
        simp [ks, kz, hwN]
        refine aa (by simp) (kL m hfit _) ?_
        simp [hch, hw4]
        refine ⟨⟨H4 ++ [aU m], j4 + 1⟩, ⟨by show j4 + 1 <= _; omega, g6⟩, by show N.length - (j4 + 1) < N.length - j4; omega, ?_⟩
        simp [Leq, hm1, hg4, hjN]
        omega
      ·have hjl4 : j4 = N.length := by omega
       subst hjl4
       have he := xt hNl
       simp [he, hw]
       refine ⟨⟨H4, Z2, j + 1⟩, ⟨by show j + 1 <= _; omega, g4.none, z2⟩, by show l.length - (j + 1) < l.length - j; omega, ?_⟩
       simp [Leq, hg4, hi4]
    | bx b hlb hv hb hnb =>
     subst hv
     have hld0 := fun j h => tD (c := aU) (k := 11) (by simp) N j h
     have hfl : (al aU N).flatten.length = N.length * 11 := by
      have : ∀ M : List Bk, (al aU M).flatten.length = M.length * 11 := fun M => by
       induction M with
       | nil => rfl
       | cons a r ih => rw [de, List.flatten_cons, Q7, ih]; simp; omega
      exact this N
     generalize (al aU N).flatten = F at *
     have g3 := g2.more hb hnb
     have hg3 := g3.hh
     have hi3 := g3.i_lt
     have hlN : N.length <= 3000 := by rw [hNl]; unfold wN; split <;> omega
     have hf2 := (Q8.1 (g3.tmp (H.length, aG f) (by simp)).1).1
     dsimp only at hf2
     have hb2 := (Q8.1 hb).1
     simp
     refine ar (D := SM) (fun d => ⟨[(0, .sl 10 (al aG l) none .no), (3, .box 5 0), (5, .box H.length 0), (6, .v (.int .i64 (wI (cu Z f)))), (7, .bsl b 0 11 N.length), (8, .v (.int .i64 (sR d.j M.length))), (19, .sl 10 (al aG l) none .no), (20, .v (.int .i64 (l.length : Int))), (21, .v (.int .i64 (j : Int))), (46, .bsl b 0 11 N.length), (47, .v (.int .i64 (N.length : Int))), (48, .v (.int .i64 (d.j : Int)))], [], d.H, []⟩) (fun d => d.j <= N.length /\ SsG [(b, F), (H.length, aG f)] d.H 5 Z2) (fun d => N.length - d.j) ⟨h2, 0⟩ ⟨Rh _, g3⟩ ?_ ?_
     ·simp [Leq, sR, hg3, hi3]
      omega
     ·rintro ⟨H4, j4⟩ ⟨hj4, g4⟩
      dsimp only at hj4 g4
      have hg4 := g4.hh
      have hi4 := g4.i_lt
      obtain ⟨hf4, _⟩ := g4.tmp (H.length, aG f) (by simp)
      have hfl4 := (Q8.1 hf4).1
      have hf4x : ∀ xs, (H4 ++ xs)[H.length]? = some (aG f) := fun xs => by rw [Rf hfl4]; exact hf4
      by_cases hlt4 : j4 < N.length
      ·have hw4 : IntKind.i64.wrap ((j4 : Int) + 1) = (j4 : Int) + 1 := wrap64 (by omega) (by omega)
       obtain ⟨m, hm⟩ : ∃ m, m = N[j4] := ⟨_, rfl⟩
       have g5 := g4.app (c := aU m) (by simp) (by simp [aB])
       have g6 := g5.less (L' := [(b, F), (H.length, aG f)]) (fun t ht => Rc _ ht)
       have hg6 := g6.hh
       obtain ⟨hb4, _⟩ := g4.tmp (b, F) (by simp)
       have hbl4 := (Q8.1 hb4).1
       dsimp only at hbl4 hb4
       have hld := hld0 j4 hlt4
       rw [<- hm] at hld
       have hfit4 : j4 * 11 + 11 <= F.length := by omega
       simp [hlt4, <- hm, hb4, hld, hfit4]
       rcases hat j4 hlt4 with ⟨hjM, hb⟩ | ⟨hjM, hwt, hz⟩
       ·rw [<- hm] at hb
        have Do := hb.kind
        have k90' : (m.kind == 90) = false := by simpa using Do
        have hm0 : sR j4 M.length = sR (j4 + 1) M.length := by rw [qL (by omega), qL (by omega)]
        by_cases sQ : m.kind = 69
        ·simp [Do, k90', sQ, hw4]
         refine ⟨⟨H4 ++ [aU m], j4 + 1⟩, ⟨by show j4 + 1 <= _; omega, g6⟩, by show N.length - (j4 + 1) < N.length - j4; omega, ?_⟩
         simp [Leq, hm0, hg4]
         omega
        ·have k69' : (m.kind == 69) = false := by simpa using sQ
         have k69n : (m.kind != 69) = true := by simp [sQ]
         simp [Do, k90', sQ, k69', k69n, hw4]
         refine aa (by simp) (kL m hb.fit _) ?_
         by_cases hch : cD m = 0
         ·simp [hch, k69n, hw4]
          refine ⟨⟨H4 ++ [aU m], j4 + 1⟩, ⟨by show j4 + 1 <= _; omega, g6⟩, by show N.length - (j4 + 1) < N.length - j4; omega, ?_⟩
          simp [Leq, hm0, hg4]
          omega
         ·have hcf : lD l = false := by
           rw [<- hc]
           cases hcc : c with
           | false => rfl
           | true => rcases hb.ok hcc with h | h; exact absurd h sQ; exact absurd h hch
          have hch' : (cD m == 0) = false := by simpa using hch
          have hchn : (cD m != 0) = true := by simp [hch]
          simp [hch, hch', hchn, k69n, hf4x]
          refine aa (by simp) (sm f _) ?_
          simp [hfp]
          refine aa (by simp) (ut l (by omega) hlp hlw _) ?_
          simp [hcf, hw4]
          refine ⟨⟨H4 ++ [aU m], j4 + 1⟩, ⟨by show j4 + 1 <= _; omega, g6⟩, by show N.length - (j4 + 1) < N.length - j4; omega, ?_⟩
          simp [Leq, hm0, hg4]
          omega
       ·rw [<- hm] at hz
        have kz : m.kind = 90 := by rw [hz]; rfl
        have ks : m.status = Z2.status := by rw [hz]; rfl
        have hch : cD m = 0 := by rw [hz]; exact qk z2.st
        have hfit : ix m := by rw [hz]; simp [ix, zB]
        have hm0 : sR j4 M.length = 0 := qL (by omega)
        have hm1 : sR (j4 + 1) M.length = 1 := by rw [hjM]; exact ES _
        have hw0 : IntKind.i64.wrap 1 = 1 := wrap64 (by omega) (by omega)
        have hwN : IntKind.i64.wrap (N.length : Int) = (N.length : Int) := wrap64 (by omega) (by omega)
        have hjN : (j4 : Int) + 1 = (N.length : Int) := by rw [hNl, hwt, hjM]; unfold wN; simp
        simp [kz, hm0, hw0, hw4, hjN, hwN]
        refine aa (by simp) (lX g6) ?_
        simp [ks, kz, hwN]
        refine aa (by simp) (kL m hfit _) ?_
        simp [hch, hw4]
        refine ⟨⟨H4 ++ [aU m], j4 + 1⟩, ⟨by show j4 + 1 <= _; omega, g6⟩, by show N.length - (j4 + 1) < N.length - j4; omega, ?_⟩
        simp [Leq, hm1, hg4, hjN]
        omega
      ·have hjl4 : j4 = N.length := by omega
       subst hjl4
       have he := xt hNl
       simp [he, hw]
       refine ⟨⟨H4, Z2, j + 1⟩, ⟨by show j + 1 <= _; omega, g4.none, z2⟩, by show l.length - (j + 1) < l.length - j; omega, ?_⟩
       simp [Leq, hg4, hi4]
  ·have hjl : j = l.length := by omega
   subst hjl
   simp
   refine aa (by simp) (uq H g.pl) ?_
   simp
end Go.Proofs.YtknohkmpficjgaaGreatDoor.Ax
namespace Go.Proofs.YtknohkmpficjgaaGreatDoor.sessSays
open Go.ChangeShapes Go.WideShapes Go.ChangeAt Go.RowKit
open Go.ChangeMaps (open_string shut_string)
theorem own : ownKnob Tryz.prog.godebug = none := by kernel_rfl
theorem laidOut : laidOutB Tryz.prog = true := by kernel_rfl
theorem et : Tryz.prog.globalNamed "errors.errorType" = some 0 := by kernel_rfl
theorem rt : (Tryz.prog.cutTypes.find? (·.1 == "internal/reflectlite.rtype")).map (·.2) = some 211 := by kernel_rfl
theorem G8 : ((Rm 304).filter fun t => Tryz.prog.rowNamed t [101, 114, 114, 111, 114]) = [66] := by kernel_rfl
theorem size : Tryz.prog.types.size = 304 := by kernel_rfl
theorem dom (W : World) (h : laidMetH Tryz.prog Rows.sessSaysRow.laid W) : Ax.Dom W := by
 obtain ⟨name, u, ty, e1, e2, e3, e4, e5⟩ := (laidMetH_iff.1 h).2 ("errors.errorType", Rows.laid_errors_errorType) (Rk.2 ⟨by simp [Rows.sessSaysRow], by kernel_rfl⟩)
 have en : name = [101, 114, 114, 111, 114] := (Option.some.inj e1).symm
 subst en
 obtain rfl := Option.some.inj (rt.symm.trans e2)
 have hm : ty ∈ (Rm 304).filter fun t => Tryz.prog.rowNamed t [101, 114, 114, 111, 114] := Rk.2 ⟨List.mem_range.2 (by rw [<- size]; exact e3), e4⟩
 rw [G8] at hm
 obtain rfl := List.mem_singleton.1 hm
 have := World.var?_cell et e5 0
 unfold Ax.Dom
 simpa using this
def data : List (String × DataW Unit) := Rows.sessSaysRow.laid.filter fun x => x.2.handleName?.isNone
noncomputable def laidWorld (os : Os) : World :=
 { World.laidAll Tryz.prog os data with heap := (World.laidAll Tryz.prog os data).heap.modify 0 fun
   | .cells _ t frozen => .cells #[.iface 211 (.agg #[.pointer (some ⟨4, 66, none⟩)])] t frozen
   | o => o }
set_option maxRecDepth 100000 in
theorem pY (os : Os) (args : Array Value) : laidMetH Tryz.prog Rows.sessSaysRow.laid ((laidWorld os).forCall (fun _ _ => 0) ⟨#[], args, []⟩).memory :=
 laidMetH_of_parts (laidMet_of_run' 300 (by kernel_rfl) (by kernel_rfl)) (by kernel_rfl)
set_option maxRecDepth 100000 in
theorem lifted (os : Os) (started : os.Started) (H : Type) (al : TypeId × Value -> H) :
  ReturnsInHanded {} Tryz.checked os 4 .any (fun w args => (Rows.sessSaysSpec.pre al Tryz.prog Tryz.f4 Rows.sessSaysRow.domain false w args /\ laidMetH Tryz.prog Rows.sessSaysRow.laid w) /\ sizedMet al Tryz.prog Tryz.f4 (OpenSpec.ofChange Rows.sessSaysSpec) false w args) (Rows.sessSaysSpec.post al Tryz.prog Tryz.f4 false true false false) := by
 refine returnsInHanded_of_change_and (C := Tryz.checked) (X := fun w _ => laidMetH Tryz.prog Rows.sessSaysRow.laid w) (fun _ _ _ hh h => h.of_heap hh) own started (by kernel_rfl) Tryz.func4
  (ChangeSpec.witness_shaped (enc := al) (C := Tryz.checked) (os := os) (X := fun w _ => laidMetH Tryz.prog Rows.sessSaysRow.laid w) false (laidWorld os) #[.slice none 0 0] 8 (World.laidAll_os _ _ _)
   (by first | exact World.shaped_of_ZipB (by kernel_rfl) (by kernel_rfl) | exact World.shaped_of_RefB (by kernel_rfl) (by kernel_rfl)) (by kernel_rfl) (by kernel_rfl) (by kernel_rfl) (pY os _)) ?_
 intro W base args ds gs before hval0 hW hcnd hreach hL _
 have hval : ∀ (j : Nat) t v, Tryz.f4.params[j]? = some t -> args[j]? = some v -> Value.okWide Tryz.prog W .any base t v := hval0
 have hW' := hW
 obtain ⟨p, q, hA0, hV, rfl, hfz, hnd⟩ := hW
 have hA : DataW.TrodAll al Tryz.prog W 0 (fun _ => true) true Tryz.f4.params.toList args.toList ds p := hA0
 rw [Tryz.params4] at hA hval
 obtain ⟨v0, vs0, d0, ds0, p0, q0, hargs, rfl, rfl, h0, r0⟩ := trodAll_cons hA
 obtain ⟨rfl, rfl, rfl⟩ := trodAll_nil r0
 obtain rfl : args = #[v0] := by cases args; simp_all
 obtain ⟨rfl, rfl⟩ := trodVars_none hV
 have k0 := h0
 have lt0 : ∀ x ∈ p0, x.block < W.heap.size := by obtain ⟨m, hm⟩ := k0; exact DataW.trod_lt m _ _ _ hm
 obtain ⟨a0, ok0, s0⟩ := Ax.arg_slice Tryz.underlying22 Ax.sh_fmCL (hval 0 22 v0 rfl rfl) h0
 clear hA0 hval0 hreach
 refine (Ax.law_walk (w := W) (dom W hL) (Ax.ssays_c a0 ok0) (by simp) (.cons s0 .nil)).mono fun e W' ⟨he, bel⟩ => ?_
 subst he
 exact ⟨_, rfl, _, _, _, [], _, [], hW', trodAll_mk1 (shut_bool Tryz.underlying4 _), (trodAll_cons_mk (Below.trod laidOut (by kernel_rfl) (of_decide_eq_true (by kernel_rfl)) k0 bel lt0) trodAll_mk0), rfl, bel.frame _, fun h => by cases h⟩
theorem over : Rows.sessSaysRow.holds Tryz.pinned (OpenSpec.ofChange Rows.sessSaysSpec) :=
 OpenClaim.holds_of_wide 4 Tryz.f4 rfl rfl rfl rfl rfl rfl rfl ⟨rfl, rfl, rfl, rfl, rfl⟩ rfl rfl rfl rfl rfl (by kernel_rfl) Tryz.func4 (by kernel_rfl)
  (of_decide_eq_true (by kernel_rfl)) (by unfold Func.isWrapper; first | (rw [if_pos (by decide +kernel)]; kernel_rfl) | (rw [if_neg (by decide +kernel)]; exact ⟨rfl, rfl⟩))
  (fun os started H al _ => lifted os started H al)
theorem proved : Rows.SessSaysCardSaid :=
 Claim7.holds_tied_plain_at .later [] [.data, .handle, .pinned] true (true, "7c2996b83169c07b8443652d1372eeed5fc8b65bc769881be6ac719c615e99a3") true over (fun _ h => by cases h) (by kernel_rfl) (fun _ h => by cases h) sessSays_row_tie rfl ⟨rfl, rfl⟩ (by kernel_rfl) rfl
  (fun f fn hf hfn => by
   obtain rfl : f = 4 := Option.some.inj ((show Tryz.prog.funcNamed "remuda/remudalaw30.SessSays" = some 4 by kernel_rfl).symm.trans hf) |>.symm
   obtain rfl : fn = Tryz.f4 := (Option.some.inj (Tryz.func4.symm.trans hfn)).symm
   exact ⟨by kernel_rfl, fun j t ht => by
    rw [Tryz.params4] at ht
    have hm : t ∈ [22] := by simpa using Array.mem_of_getElem? ht
    have hall : ([22].all fun u => !Tryz.prog.wantsStandIn u) = true := by kernel_rfl
    exact (show Tryz.prog.wantsStandIn t = false by simpa using Ra.1 hall t hm)⟩)
  (by kernel_rfl)
#print axioms proved
end Go.Proofs.YtknohkmpficjgaaGreatDoor.sessSays
